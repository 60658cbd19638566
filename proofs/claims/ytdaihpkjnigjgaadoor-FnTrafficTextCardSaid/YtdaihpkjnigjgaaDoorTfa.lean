/- The text of a traffic: plain words, and the program's. -/
import Derived.Test.YtdaihpkjnigjgaaDoorTxM
import Derived.Test.YtdaihpkjnigjgaaDoorOwnT
import Derived.Test.YtdaihpkjnigjgaaDoorTfI
import Derived.Test.YtdaihpkjnigjgaaDoorHeld
import Derived.Deep.RegionLaw
import Derived.Deep.DeepMust
namespace Go.Proofs.YtdaihpkjnigjgaaDoor
open Go.RowKit Go.Shelf
set_option maxHeartbeats 4000000
set_option linter.unusedVariables false
set_option linter.unusedSimpArgs false
def chP (r : Int) : UInt8 := if r = 0 then 114 else if r = 1 then 104 else 99
def wdP (p : Int) : List UInt8 := Lib.itoa (p / 3) ++ [chP (p % 3)]
def wdsT (B : Int) (l : List Int) (k : Nat) : List (List UInt8) := Lib.itoa B :: (l.take k).map wdP
theorem wdsT_succ (B : Int) (l : List Int) (k : Nat) (h : k < l.length) : wdsT B l (k + 1) = wdsT B l k ++ [wdP (gx l k)] := by
  unfold wdsT; rw [List.take_succ_eq_append_getElem h, gx_of l k h, List.map_append]; rfl
def txK (B : Int) (l : List Int) (k : Nat) : List UInt8 := Lib.join (wdsT B l k) [32]
theorem txK_0 (B : Int) (l : List Int) : txK B l 0 = Lib.itoa B := by unfold txK wdsT; rw [List.take_zero, List.map_nil, Lib.join_one]
theorem txK_succ (B : Int) (l : List Int) (k : Nat) (h : k < l.length) : txK B l (k + 1) = txK B l k ++ [32] ++ wdP (gx l k) := by
  unfold txK; rw [wdsT_succ B l k h]; unfold wdsT
  rw [List.cons_append, Lib.join_cons, Lib.join_cons]
  simp [Lib.joinTail]
def tfTx (B : Int) (l : List Int) : List UInt8 := if tfB B l = true then txK B l l.length else []
theorem wdP_len {p : Int} (h0 : 0 ≤ p) (h1 : p ≤ 9223372036854775807) : (wdP p).length ≤ 23 := by
  unfold wdP; rw [List.length_append]; have := itoa_len (p / 3) (by omega) (by omega); simp; omega
theorem txK_len {B : Int} {l : List Int} (hB : 2 ≤ B) (hB2 : B ≤ 8) (hp : plB B l = true) (k : Nat) (hk : k ≤ l.length) : (txK B l k).length ≤ 22 + 24 * k := by
  induction k with
  | zero => rw [txK_0]; exact itoa_len B (by omega) (by omega)
  | succ k ih =>
    obtain ⟨p1, p2⟩ := plB_at hp k (by omega)
    rw [txK_succ B l k (by omega), List.length_append, List.length_append]
    have := wdP_len p1 (by omega)
    have := ih (by omega)
    simp; omega
/-- append(out, y) of texts, as one step of a region that draws its order -/
theorem step1T {ops : Array Oper} {o : Oper} {a : Act} {W : World} {K : Act → World → Prop} {Q : Exit → Act → World → Prop} {E : Prop} (hgd : o.guard = none) (s x : Operand)
    (ho : o.op = .call { callee := .builtin .append, args := #[s, x], argTypes := #[44, 44] })
    (base : Nat) (T : TypeId) (v : Value) (l : List (List UInt8)) (y : List UInt8) (yb : ByteArray) (hown : OwnT W base v l) (hs : a.eval s = v) (hx : a.eval x = .slice (some ⟨W.heap.size, 0, none⟩) 1 1) (hyb : yb = tx y) (hl : l.length ≤ 1000000000) (hbase : base ≤ W.heap.size)
    (h : ∀ v' w', OwnT w' base v' (l ++ [y]) → W.grownBy w' v.ownBlock → K (a.put o.dst v') w') : if Region.wanted o (yielded ops a.tmps) = true then Oper.wp Tryd.prog o a (W.alloc (.cells #[.string yb] T)) K Q else E := by
  subst hyb
  have hw : Region.wanted o (yielded ops a.tmps) = true := by simp [Region.wanted, hgd]
  rw [if_pos hw]
  obtain ⟨i0, hi, hz0, hz1, hz2⟩ := info_parts info_str
  have hc : (W.alloc (.cells #[.string (tx y)] T)).cell? ⟨W.heap.size, 0, none⟩ = some (.string (tx y)) := by
    rw [cell_of_row _ _ 0 _ T (0, 0) (heap_alloc_new W _)]; rfl
  have hown' : (W.alloc (.cells #[.string (tx y)] T)).ownsRow base 9 1 v l.length (l.map (fun x => Value.string (tx x))) := World.ownsRow.alloc hown _
  obtain ⟨v', w', hrun, r1, r2, _⟩ := run_append_own (P := Tryd.prog) (W.alloc (.cells #[.string (tx y)] T)) base 44 o.type 9 i0 (.string ⟨#[]⟩) 1 16 Tryd.underlying44 hi hz0 hz1 hz2 rfl (by decide) v l.length _ hown' ⟨W.heap.size, 0, none⟩ 1 1 [.string (tx y)] rfl (by
    intro j u hj
    cases j with
    | zero => simp at hj; subst hj; rw [Addr.add_lit]; exact hc
    | succ j => simp at hj) (by intro u hu; simp at hu; subst hu; rfl) (by unfold maxLen; omega) (by omega) (by simp; omega)
  unfold Oper.wp
  simp [execOp, ho, resolve, invoke, builtin, hs, hx, hrun, Result.andThen]
  exact h v' w' (by unfold OwnT; simpa using r1) (grown_trans (World.grownBy_alloc W _ _) r2)
theorem tx_back' (l : List (List UInt8)) : (l.map tx).map (·.data.toList) = l := by
  rw [List.map_map]
  exact (List.map_congr_left (fun x _ => by simp [tx])).trans (List.map_id l)
theorem i_JoinT (B : Int) (l : List Int) (g n cap : Nat) (w : World) (hn : n = l.length + 1) (hn5 : n ≤ 1000) (hg : g < w.heap.size) (hc : n ≤ cap) (hlen : (txK B l l.length).length ≤ 1000) (hcell : ∀ (j : Nat) y, ((wdsT B l l.length).map tx)[j]? = some y → w.cell? ⟨g, 0 + j, none⟩ = some (.string y)) :
    Calls Tryd.prog 24 #[.slice (some ⟨g, 0, none⟩) n cap, .string (tx [32])] w (Texts w (txK B l l.length)) := by
  have e : Lib.join (((wdsT B l l.length).map tx).map (·.data.toList)) (tx [32]).data.toList = txK B l l.length := by rw [tx_back']; rfl
  have hl : ((wdsT B l l.length).map tx).length = n := by simp [wdsT, hn]
  have := Any.strings_Join Tryd.laysB Tryd.laysBX g 0 cap ((wdsT B l l.length).map tx) (tx [32]) w hcell hg (by rw [hl]; omega) (by rw [hl]; exact hc) (by rw [e]; omega)
  rw [hl] at this
  refine this.mono ?_
  rintro e' w' ⟨h1, h2⟩
  refine ⟨?_, h2⟩
  rw [h1, e]
  rfl
set_option maxRecDepth 100000 in
theorem i_TrafficText (B : Int) (a : Option Addr) (n cap : Nat) (l : List Int) (w : World) (hs : Sl w a n l) (ht : Tab w) :
    Calls Tryd.prog 8 #[.agg #[.int .i64 B, .slice a n cap]] w (Texts w (tfTx B l)) := by
  have HS := Lib.hid hs
  have HL := Lib.hid hs.1
  have HT := Lib.hid ht
  clear hs ht
  cases hv : tfB B l
  · have HX : Hid (tfTx B l = []) := Lib.hid (by unfold tfTx; rw [hv]; rfl)
    go_enter Tryd.func8, Tryd.ntmps8
    go_wp2_with (go_at_call 21; refine (i_IsTraffic _ _ _ _ _ _ (sl_later HS.out (show Later w _ from (by repeat (first | (with_reducible exact Later.refl _) | (with_reducible exact Hid.out (by assumption)) | (with_reducible refine Later.alloc ?_ _) | (with_reducible refine Later.setCell ?_ (by simp; omega) _) | (with_reducible refine Later.setCell ?_ (by simp) _) | (with_reducible refine Later.drewN ?_ _) | (with_reducible refine Later.drew ?_) | (with_reducible refine Later.trans ?_ (Hid.out (by assumption)))))))).mono ?_; rintro e w1 ⟨rfl, hb⟩; rw [hv]; have H1 := Lib.hid hb; clear hb)
    go_ret
    exact ⟨by rw [HX.out]; rfl, (show Later w _ from (by repeat (first | (with_reducible exact Later.refl _) | (with_reducible exact Hid.out (by assumption)) | (with_reducible refine Later.alloc ?_ _) | (with_reducible refine Later.setCell ?_ (by simp; omega) _) | (with_reducible refine Later.setCell ?_ (by simp) _) | (with_reducible refine Later.drewN ?_ _) | (with_reducible refine Later.drew ?_) | (with_reducible refine Later.trans ?_ (Hid.out (by assumption))))))⟩
  · obtain ⟨b1, b2, n1, n2, hp⟩ := (tfB_iff B l).1 hv
    rw [HL.out] at n1 n2
    have HP := Lib.hid hp
    have HX : Hid (tfTx B l = txK B l l.length) := Lib.hid (by unfold tfTx; rw [hv]; rfl)
    clear hp
    go_enter Tryd.func8, Tryd.ntmps8
    go_wp2_with fail
    refine (i_IsTraffic _ _ _ _ _ _ (sl_later HS.out (show Later w _ from (by repeat (first | (with_reducible exact Later.refl _) | (with_reducible exact Hid.out (by assumption)) | (with_reducible refine Later.alloc ?_ _) | (with_reducible refine Later.setCell ?_ (by simp; omega) _) | (with_reducible refine Later.setCell ?_ (by simp) _) | (with_reducible refine Later.drewN ?_ _) | (with_reducible refine Later.drew ?_) | (with_reducible refine Later.trans ?_ (Hid.out (by assumption)))))))).mono ?_
    rintro e w1 ⟨rfl, hl⟩
    rw [hv]
    obtain ⟨H1, hcc, hff, hzz⟩ := later_facts hl; clear hl
    simp only [World.size_alloc] at hzz hcc hff
    have q0 : w1.cell? ⟨w.heap.size, 0, none⟩ = some (.int .i64 B) := by rw [hcc _ _ (by omega)]; simp
    have q1 : w1.cell? ⟨w.heap.size, 1, none⟩ = some (.slice a n cap) := by rw [hcc _ _ (by omega)]; simp
    have HG1 : Hid (Later w w1) := Lib.hid (by repeat (first | (with_reducible exact Later.refl _) | (with_reducible exact Hid.out (by assumption)) | (with_reducible refine Later.alloc ?_ _) | (with_reducible refine Later.setCell ?_ (by simp; omega) _) | (with_reducible refine Later.setCell ?_ (by simp) _) | (with_reducible refine Later.drewN ?_ _) | (with_reducible refine Later.drew ?_) | (with_reducible refine Later.trans ?_ (Hid.out (by assumption)))))
    clear hcc hff H1
    go_wp2_with fail
    refine (i_Format B (by omega) (by omega) _ (HT.out.later HG1.out)).mono ?_
    rintro e w2 ⟨rfl, hl⟩
    obtain ⟨H2, hcc, hff, hzz2⟩ := later_facts (show Later w1 w2 from hl); clear hl
    have c0 : w2.cell? ⟨w.heap.size, 0, none⟩ = some (.int .i64 B) := by rw [hcc _ _ (by omega)]; exact q0
    have c1 : w2.cell? ⟨w.heap.size, 1, none⟩ = some (.slice a n cap) := by rw [hcc _ _ (by omega)]; exact q1
    have HG2 : Hid (Later w w2) := Lib.hid (HG1.out.trans H2.out)
    have hz2 : w.heap.size + 1 ≤ w2.heap.size := by omega
    have O2 : Hid (OwnT (w2.alloc (.cells #[.string (tx (Lib.itoa B))] 9)) (w.heap.size + 1) (.slice (some ⟨w2.heap.size, 0, none⟩) 1 1) (wdsT B l 0)) := Lib.hid (by have := ownT_one w2 (w.heap.size + 1) hz2 (Lib.itoa B); simpa [wdsT] using this)
    have A0 : (w2.alloc (.cells #[.string (tx (Lib.itoa B))] 9)).cell? ⟨w.heap.size, 0, none⟩ = some (.int .i64 B) := (Below.cell (p := ⟨w.heap.size, 0, none⟩) ((Later.refl w2).alloc _) (by show w.heap.size < _; omega)).trans c0
    have A1 : (w2.alloc (.cells #[.string (tx (Lib.itoa B))] 9)).cell? ⟨w.heap.size, 1, none⟩ = some (.slice a n cap) := (Below.cell (p := ⟨w.heap.size, 1, none⟩) ((Later.refl w2).alloc _) (by show w.heap.size < _; omega)).trans c1
    clear hcc hff q0 q1 H2 HG1
    go_wp2_with fail
    clear c0 c1 A0 A1
    go_loopw [3, 18] (fun v i wr => ∃ k : Nat, k ≤ n ∧ i = .int .i64 k ∧ OwnT wr (w.heap.size + 1) v (wdsT B l k) ∧ Later w wr ∧ w.heap.size + 1 ≤ wr.heap.size) (fun _ i _ => n - (intOf i).toNat)
    case atStart => exact ⟨0, by omega, rfl, O2.out, HG2.out.alloc _, by rw [World.size_alloc]; omega⟩
    case round =>
      clear O2 HG2 hz2
      obtain ⟨k, hk, rfl, ho, hg, hz⟩ := hrel
      have HO := Lib.hid ho; have HG := Lib.hid hg
      clear ho hg
      by_cases hlt : k < n
      · obtain ⟨b, off, rfl, hc⟩ := (sl_later HS.out HG.out).at k hlt
        obtain ⟨p1, p2⟩ := plB_at HP.out k (by rw [HL.out]; exact hlt)
        have HN := Lib.hid (wdsT_succ B l k (by rw [HL.out]; exact hlt))
        obtain ⟨p, hpe⟩ : ∃ p, p = gx l k := ⟨_, rfl⟩
        rw [← hpe] at hc p1 p2 HN
        have m0 : 0 ≤ p / 3 := by omega
        have hm : p % 3 = 0 ∨ p % 3 = 1 ∨ p % 3 = 2 := by omega
        clear hpe
        have hwl : (wdsT B l k).length ≤ 1000 := by simp [wdsT, List.length_take]; omega
        have ix0 : ∀ W, (Instr.slice 9 (.string ⟨#[114, 104, 99]⟩) (some (.int .i64 0)) (some (.int .i64 (IntKind.i64.wrap 1))) none).run Tryd.prog W = .ok (.string ⟨#[114]⟩) W := fun _ => by kernel_rfl
        have ix1 : ∀ W, (Instr.slice 9 (.string ⟨#[114, 104, 99]⟩) (some (.int .i64 1)) (some (.int .i64 (IntKind.i64.wrap 2))) none).run Tryd.prog W = .ok (.string ⟨#[104]⟩) W := fun _ => by kernel_rfl
        have ix2 : ∀ W, (Instr.slice 9 (.string ⟨#[114, 104, 99]⟩) (some (.int .i64 2)) (some (.int .i64 (IntKind.i64.wrap 3))) none).run Tryd.prog W = .ok (.string ⟨#[99]⟩) W := fun _ => by kernel_rfl
        have hsz : (tx (Lib.itoa (p / 3))).size ≤ 22 := by rw [tx_size]; exact itoa_len _ (by omega) (by omega)
        have hsz1 : ¬ 9223372036854775807 < (tx (Lib.itoa (p / 3))).size + 1 := by omega
        rcases hm with hm | hm | hm
        all_goals
          have HW : Hid (wdP p = Lib.itoa (p / 3) ++ [chP (p % 3)]) := Lib.hid rfl
          rw [hm] at HW
          go_wp2_with (go_at_call 23; refine (i_partsOfPlace _ _ (by omega) (by omega)).mono ?_; rintro e w' ⟨rfl, rfl⟩)
          go_region_law (first
            | (refine step1T rfl (.tmp 27) (.tmp 35) rfl (w.heap.size + 1) _ _ (wdsT B l k) (wdP p) _ O4.out (by simp [Act.eval, Act.put]) (by simp [Act.eval, Act.put]) (by rw [HW.out, ← tx_app]; rfl) (by omega) hz4 ?_; intro v' w5 ho5 hg5; have O5 := Lib.hid ho5; have H5 : Hid (Later w w5) := Lib.hid (Below.grown H4.out hg5 H4.out.size (fun j hj => by have := (O4.out.lt j hj).1; omega)); have hz5 := Nat.le_trans hz4 hg5.size; clear ho5 hg5)
            | (go_simp; go_at_call 22; refine (i_Format (p / 3) (by omega) (by omega) _ (HT.out.later (show Later w _ from HG.out.drew))).mono ?_; rintro e w4 ⟨rfl, hb4⟩; have H4 : Hid (Later w w4) := Lib.hid (HG.out.trans (later_undrew hb4)); have O4 := Lib.hid (HO.out.later (later_undrew hb4)); have hz4 : w.heap.size + 1 ≤ w4.heap.size := Nat.le_trans hz (Later.size (later_undrew hb4)); clear hb4))
          all_goals
            go_wp2_with fail
            go_roundw
            case rel => exact ⟨k + 1, by omega, by go_num, by rw [HN.out]; exact O5.out, H5.out, hz5⟩
            case measure => simp [intOf]; omega
      · obtain rfl : k = n := by omega
        have O6 : Hid (OwnT wr (w.heap.size + 1) u3 (wdsT B l l.length)) := Lib.hid (by rw [HL.out]; exact HO.out)
        have hwl : (wdsT B l l.length).length = k + 1 := by simp [wdsT, HL.out]
        obtain ⟨g, cp, e3, hc1, hg, hb0, hcell⟩ := O6.out.row (by simp [wdsT])
        rw [hwl] at e3 hc1
        have HC := Lib.hid hcell
        have hlen := txK_len b1 b2 HP.out l.length (Nat.le_refl _)
        have hlen2 : (txK B l l.length).length ≤ 1000 := by have := HL.out; omega
        subst e3
        clear hcell hwl hlen
        go_wp2_with fail
        refine (i_JoinT B l g (k + 1) cp _ (by rw [HL.out]) (by omega) hg hc1 hlen2 HC.out).mono ?_
        rintro e w4 ⟨rfl, hb4⟩
        have B4 := Lib.hid (HG.out.trans hb4)
        clear hb4
        go_wp2_with fail
        go_ret
        exact ⟨by rw [HX.out]; rfl, B4.out⟩
end Go.Proofs.YtdaihpkjnigjgaaDoor
