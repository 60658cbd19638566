/- A layout's text read, by the program: ReadLayout. -/
import Derived.Test.YtkhhoajoionlfaaDoorRdG
import Derived.Test.YtkhhoajoionlfaaDoorTxL
import Derived.Test.YtkhhoajoionlfaaDoorOwnS
namespace Go.Proofs.YtkhhoajoionlfaaDoor
open Go.RowKit Go.Shelf
set_option maxHeartbeats 4000000
set_option linter.unusedVariables false
set_option linter.unusedSimpArgs false
/-- 'what the text l is read as' -/
def ReadsR (w : World) (l : List UInt8) (e : Ending) (w' : World) : Prop :=
  Later w w' ∧ ((∃ L v, layB L = true ∧ l = linTx L ∧ e = .returned (.tuple #[.agg #[v], .bool true]) ∧ OwnS w' w.heap.size v L) ∨ ((∀ L, layB L = true → l ≠ linTx L) ∧ e = .returned (.tuple #[.agg #[.slice none 0 0], .bool false])))
/-- 'the pieces of l, where it is a layout's text, are its lines' -/
def LnOf (l : List UInt8) (W : List (List UInt8)) : Prop := ∀ M, layB M = true → l = linTx M → W = M.map segTx ++ [[]]
/-- 'the first k lines are read as L' -/
def RdTo (l : List UInt8) (k : Nat) (L : List Sg) : Prop := L.length = k ∧ ∀ M, layB M = true → l = linTx M → L = M.take k
theorem rdTo_nil (l : List UInt8) : RdTo l 0 [] := ⟨rfl, fun M _ _ => by simp⟩
theorem ln_at {l : List UInt8} {W : List (List UInt8)} (h : LnOf l W) {k : Nat} (hk : k + 1 < W.length) {M : List Sg} (hM : layB M = true) (hl : l = linTx M) : k < M.length ∧ W.getD k [] = segTx (sx M k) ∧ sgB (sx M k) = true := by
  have hW := h M hM hl
  have hkM : k < M.length := by rw [hW] at hk; simp at hk; exact hk
  refine ⟨hkM, ?_, okB_at M M.length k (Nat.le_refl _) hkM ((layB_iff M).1 hM).2.2.1⟩
  rw [hW, List.getD_eq_getElem?_getD, List.getElem?_append_left (by simpa using hkM), sx_of M k hkM]
  simp [hkM]
theorem rdTo_snoc {l : List UInt8} {W : List (List UInt8)} {k : Nat} {L : List Sg} {y : Sg} {b : Bool} (h : LnOf l W) (hr : RdTo l k L) (hk : k + 1 < W.length) (hy : RSg (W.getD k []) y b) : RdTo l (k + 1) (L ++ [y]) := by
  refine ⟨by rw [List.length_append, hr.1]; rfl, fun M hM hl => ?_⟩
  obtain ⟨h1, h2, h3⟩ := ln_at h hk hM hl
  rw [hr.2 M hM hl, (hy.2 _ h3 h2).1, List.take_succ_eq_append_getElem h1, sx_of M k h1]
theorem rd_bad {l : List UInt8} {W : List (List UInt8)} {k : Nat} {y : Sg} (h : LnOf l W) (hk : k + 1 < W.length) (hy : RSg (W.getD k []) y false) : ∀ L, layB L = true → l ≠ linTx L := by
  intro M hM hl
  obtain ⟨h1, h2, h3⟩ := ln_at h hk hM hl
  exact absurd (hy.2 _ h3 h2).2 (by decide)
theorem rd_end {l : List UInt8} {W : List (List UInt8)} {k : Nat} {L : List Sg} (h : LnOf l W) (hr : RdTo l k L) (hk : W.length = k + 1) : ∀ M, layB M = true → l = linTx M → L = M := by
  intro M hM hl
  have hW := congrArg List.length (h M hM hl)
  rw [hk] at hW
  simp at hW
  rw [hr.2 M hM hl, hW, List.take_length]
theorem rd_no {l : List UInt8} {L : List Sg} (h : ∀ M, layB M = true → l = linTx M → L = M) (hL : layB L = false) : ∀ M, layB M = true → l ≠ linTx M := by
  intro M hM hl
  have := h M hM hl
  rw [this, hM] at hL
  cases hL
theorem rd_ne {l : List UInt8} {L : List Sg} (h : ∀ M, layB M = true → l = linTx M → L = M) (hL : layTx L ≠ l) : ∀ M, layB M = true → l ≠ linTx M := by
  intro M hM hl
  have := h M hM hl
  refine hL ?_
  rw [this, hl]
  unfold layTx
  rw [if_pos hM]
/-- the two variables of type Layout: the result's, still nothing, and the one that is built -/
def TwoV (w W : World) (v : Value) : Prop :=
  w.heap.size + 1 < W.heap.size ∧ W.cell? ⟨w.heap.size, 0, none⟩ = some (.slice none 0 0) ∧ W.frozen? ⟨w.heap.size, 0, none⟩ = false ∧ W.cell? ⟨w.heap.size + 1, 0, none⟩ = some v ∧ W.frozen? ⟨w.heap.size + 1, 0, none⟩ = false
theorem TwoV.later {w W W' : World} {v : Value} (h : TwoV w W v) (b : Later W W') : TwoV w W' v :=
  ⟨Nat.lt_of_lt_of_le h.1 b.size, by rw [b.cell (p := ⟨w.heap.size, 0, none⟩) (by have := h.1; simp; omega)]; exact h.2.1, by rw [Below.frozen (p := ⟨w.heap.size, 0, none⟩) b (by have := h.1; simp; omega)]; exact h.2.2.1, by rw [b.cell (p := ⟨w.heap.size + 1, 0, none⟩) h.1]; exact h.2.2.2.1, by rw [Below.frozen (p := ⟨w.heap.size + 1, 0, none⟩) b h.1]; exact h.2.2.2.2⟩
theorem TwoV.set {w W : World} {v : Value} (h : TwoV w W v) (u : Value) : TwoV w (W.setCell ⟨w.heap.size + 1, 0, none⟩ u) u :=
  ⟨by rw [World.size_setCell]; exact h.1, by rw [World.cell?_setCell_other _ _ _ _ (by simp)]; exact h.2.1, by rw [World.frozen?_setCell]; exact h.2.2.1, World.cell?_setCell_same _ _ _ h.2.2.2.1, by rw [World.frozen?_setCell]; exact h.2.2.2.2⟩
theorem TwoV.grown {w W W' : World} {v : Value} {row : Option Nat} (h : TwoV w W v) (hg : W.grownBy W' row) (hr : ∀ k, row = some k → w.heap.size + 2 ≤ k) : TwoV w W' v := by
  have hb : Below (w.heap.size + 2) W W' := (Below.refl _ _).grown hg h.1 hr
  refine ⟨Nat.lt_of_lt_of_le h.1 hb.size, ?_, ?_, ?_, ?_⟩
  · rw [Below.cell (p := ⟨w.heap.size, 0, none⟩) hb (by simp)]; exact h.2.1
  · rw [Below.frozen (p := ⟨w.heap.size, 0, none⟩) hb (by simp)]; exact h.2.2.1
  · rw [Below.cell (p := ⟨w.heap.size + 1, 0, none⟩) hb (by simp)]; exact h.2.2.2.1
  · rw [Below.frozen (p := ⟨w.heap.size + 1, 0, none⟩) hb (by simp)]; exact h.2.2.2.2
theorem Wds.below {N : Nat} {w w' : World} {g n cap : Nat} {W : List (List UInt8)} (h : Wds w g n cap W) (hg : g < N) (hb : Below N w w') : Wds w' g n cap W :=
  ⟨h.1, h.2.1, Nat.lt_of_lt_of_le h.2.2.1 hb.size, fun j hj => by rw [Below.cell (p := ⟨g, j, none⟩) hb hg]; exact h.2.2.2 j hj⟩
theorem Wds.far {w : World} {g n cap : Nat} {W : List (List UInt8)} (h : Wds w g n cap W) {b : Nat} (hb : b ≠ g) (o : Nat) (u : Value) : Wds (w.setCell ⟨b, o, none⟩ u) g n cap W :=
  ⟨h.1, h.2.1, by rw [World.size_setCell]; exact h.2.2.1, fun j hj => by rw [World.cell?_setCell_other _ _ _ _ (by simp <;> omega)]; exact h.2.2.2 j hj⟩
theorem OwnS.far {w : World} {base : Nat} {v : Value} {L : List Sg} (h : OwnS w base v L) {g : Nat} (hg : g < base) (j : Nat) (u : Value) : OwnS (w.setCell ⟨g, j, none⟩ u) base v L :=
  h.kept2 (grown_set w g j u) (fun k hk e => by cases e; have := (h.lt _ hk).1; omega)
theorem sg7_vals (y : Sg) : #[Value.int .i64 y.k, .int .i64 y.l, .int .i64 y.r, .int .i64 y.a, .int .i64 y.b, .int .i64 y.c, .int .i64 y.d] = (sgVals [y]).toArray := rfl
set_option maxRecDepth 100000 in
theorem i_ReadLayout (s : ByteArray) (w : World) (hs : s.size ≤ 1048576) (ht : Tab w) (hm : MaxL w) (he : Errs w) : Calls Tryd.prog 5 #[.string s] w (ReadsR w s.data.toList) := by
  obtain ⟨l, hl⟩ : ∃ l, l = s.data.toList := ⟨_, rfl⟩
  have hlen : l.length = s.size := by rw [hl]; rfl
  rw [← hl]
  have HL := Lib.hid hl
  have HLEN := Lib.hid hlen
  have HE := Lib.hid he
  have HT := Lib.hid ht
  have HM := Lib.hid hm
  clear hl hlen he ht
  have A0 : Later w ((w.alloc (.cells #[.slice none 0 0] 24)).alloc (.cells #[.slice none 0 0] 24)) := ((Later.refl w).alloc _).alloc _
  have V0 : TwoV w ((w.alloc (.cells #[.slice none 0 0] 24)).alloc (.cells #[.slice none 0 0] 24)) (.slice none 0 0) := by
    refine ⟨by simp, by simp, by simp, ?_, by simp⟩
    simp
  have V0H := Lib.hid V0
  have A0H := Lib.hid A0
  clear V0 A0
  go_enter Tryd.func5, Tryd.ntmps5
  go_wp2_with fail
  refine (i_SplitL s _ hs (HM.out.later A0H.out)).mono ?_
  rw [← HL.out]
  rintro e w1 ⟨g, q, cap, W, hgb, hW, rfl, hwd, hb, hcap⟩
  have B1 := Lib.hid (Later.trans A0H.out hb)
  have V1 := Lib.hid (V0H.out.later hb)
  have hz1 : w.heap.size + 1 < w1.heap.size := V1.out.1
  have HLO : Hid (LnOf l W) := Lib.hid (fun M hM hlM => by rw [hW]; exact lines_cut hlM ((layB_iff M).1 hM).2.1 _ rfl)
  have hlW := splitK_len 10 (min 25 (l.length + 1) - 1) l
  rw [← hW] at hlW
  have HQ := Lib.hid hwd.1
  have hq1 : 1 ≤ q := by rw [HQ.out]; exact hlW.1
  have hq25 : q ≤ 25 := by rw [HQ.out]; have := hlW.2; omega
  have hgw : w.heap.size + 1 < g := by simp at hgb; omega
  have hqc := hwd.2.1
  have HWD := Lib.hid hwd
  have hmax : Hid (∀ k, (W.getD k []).length ≤ 1048576) := Lib.hid (fun k => by
    rw [List.getD_eq_getElem?_getD]
    cases h : W[k]? with
    | none => simp
    | some y =>
      have := splitK_le 10 _ l y (by rw [← hW]; exact List.mem_of_getElem? h)
      have h2 := HLEN.out
      simp; omega)
  clear hW hwd hb hm hlW hgb
  obtain ⟨m, hqm⟩ : ∃ m, q = m + 1 := ⟨q - 1, by omega⟩
  unfold ReadsR
  have hm1 : (q : Int) - 1 = (m : Int) := by omega
  have hmw : IntKind.i64.wrap ((q : Int) - 1) = (m : Int) := by rw [IntWalk.i64_in _ (by omega)]; omega
  have hmn : ((m : Int)).toNat = m := by omega
  have hm0 : (0 : Int) ≤ m := by omega
  have hmc : m ≤ cap := by omega
  have HQM := Lib.hid hqm
  clear hqm
  go_wp2_with fail
  go_loopw [18] (fun i wr => ∃ (k : Nat) (L : List Sg) (v : Value), i = .int .i64 k ∧ k ≤ m ∧ Hid (RdTo l k L) ∧ OwnS wr w1.heap.size v L ∧ TwoV w wr v ∧ Wds wr g q cap W ∧ w1.heap.size ≤ wr.heap.size ∧ Later w wr) (fun i _ => m - (intOf i).toNat)
  case atStart => exact ⟨0, [], _, rfl, by omega, Lib.hid (rdTo_nil l), ownS_none _ _, V1.out, HWD.out, Nat.le_refl _, B1.out⟩
  case round =>
    obtain ⟨k, L, v, rfl, hk, HR, ho, hv, hwd, hsz1, hb⟩ := hrel
    have O2 := Lib.hid ho; have V2 := Lib.hid hv; have WD2 := Lib.hid hwd; have B2 := Lib.hid hb
    clear ho hv hwd hb
    have hz2 := V2.out.1
    by_cases hlt : k < m
    · obtain ⟨wk, hwk⟩ : ∃ u, u = W.getD k [] := ⟨_, rfl⟩
      have hwl := hmax.out k
      rw [← hwk] at hwl
      have hwl' : (tx wk).size ≤ 1048576 := by rw [tx_size]; omega
      have cw : wr.cell? ⟨g, k, none⟩ = some (.string (tx wk)) := by rw [hwk]; exact WD2.out.2.2.2 k (by have := HQM.out; omega)
      have hgr := WD2.out.2.2.1
      have hkq : k < q := by have := HQM.out; omega
      have HWK := Lib.hid hwk
      clear hwk
      go_wp2_with fail
      refine (i_readSegment _ _ hwl' (HM.out.later (Later.trans B2.out (by repeat (first | (with_reducible exact Later.refl _) | (with_reducible refine Later.drewN ?_ _) | (with_reducible refine Later.drew ?_))))) (HE.out.lat (Later.trans B2.out (by repeat (first | (with_reducible exact Later.refl _) | (with_reducible refine Later.drewN ?_ _) | (with_reducible refine Later.drew ?_)))))).mono ?_
      rintro e w4 ⟨hb4, y, b, hy, rfl⟩
      have HY : Hid (RSg (W.getD k []) y b) := Lib.hid (by rw [← HWK.out]; exact hy)
      have B4 := Lib.hid (Later.trans B2.out (Later.trans (by repeat (first | (with_reducible exact Later.refl _) | (with_reducible refine Later.drewN ?_ _) | (with_reducible refine Later.drew ?_))) hb4))
      have WD4 := Lib.hid (WD2.out.later (Later.trans (by repeat (first | (with_reducible exact Later.refl _) | (with_reducible refine Later.drewN ?_ _) | (with_reducible refine Later.drew ?_))) hb4))
      have hb4s : wr.heap.size ≤ w4.heap.size := hb4.size
      have V4 := Lib.hid (V2.out.later (Later.trans (by repeat (first | (with_reducible exact Later.refl _) | (with_reducible refine Later.drewN ?_ _) | (with_reducible refine Later.drew ?_))) hb4))
      have O4 := Lib.hid (O2.out.below (Later.trans (by repeat (first | (with_reducible exact Later.refl _) | (with_reducible refine Later.drewN ?_ _) | (with_reducible refine Later.drew ?_))) hb4))
      have hz4 := V4.out.1
      have hin := hy.1
      have hz4a : w.heap.size < w4.heap.size := by omega
      have hz4b : w.heap.size ≠ w4.heap.size := by omega
      have hz4c : w.heap.size + 1 ≠ w4.heap.size := by omega
      clear hb4 hy cw
      unfold agg7
      cases b
      · have HX := Lib.hid (rd_bad HLO.out (by rw [← HQ.out, HQM.out]; omega) HY.out)
        have v0 := V4.out.2.1; have v1 := V4.out.2.2.1
        clear hin
        go_wp2_with fail
        refine bodyPost_ret (v := .tuple #[.agg #[.slice none 0 0], .bool false]) (by simp [results, Tryd.results5, go_sem, *] <;> omega) rfl ⟨(by repeat (first | (with_reducible exact Later.refl _) | (with_reducible exact Hid.out (by assumption)) | (with_reducible refine Later.alloc ?_ _) | (with_reducible refine Later.setCell ?_ (by simp; omega) _) | (with_reducible refine Later.setCell ?_ (by simp) _) | (with_reducible refine Later.drewN ?_ _) | (with_reducible refine Later.drew ?_) | (with_reducible refine Later.trans ?_ (Hid.out (by assumption))))), .inr ⟨HX.out, rfl⟩⟩
      · have HR' := Lib.hid (rdTo_snoc HLO.out HR.out (by rw [← HQ.out, HQM.out]; omega) HY.out)
        have hLl := HR.out.1
        obtain ⟨yk, yl, yr, ya, yb, yc, yd⟩ := y
        have hLn : L.length + 1 ≤ 1000000000 := by omega
        have v0 := V4.out.2.2.2.1; have v1 := V4.out.2.2.2.2
        have b6 : w1.heap.size ≤ w4.heap.size := by omega
        clear hLl
        go_wp2_with (at_builtin; go_must (refine appS rfl _ _ rfl w1.heap.size _ _ _ L [⟨yk, yl, yr, ya, yb, yc, yd⟩] 1 _ rfl rfl (O4.out.below ((Later.refl _).alloc _)) rfl (by first | rfl | (rw [World.size_alloc]; rfl)) (fun x hx => by simp at hx; subst hx; exact hin) hLn (by rw [World.size_alloc]; omega) ?_; intro v' w7 ho hg; obtain ⟨a7, cp7, hv7, _, _, _⟩ := ho.sgs; generalize (L ++ [Sg.mk yk yl yr ya yb yc yd]).length = n7 at hv7; subst hv7; have O7 := Lib.hid ho; have V7 := Lib.hid ((V4.out.later ((Later.refl _).alloc _)).grown hg (fun j hj => by have := (O4.out.lt j hj).1; omega)); have WD7 := Lib.hid ((WD4.out.later ((Later.refl _).alloc _)).below (N := w1.heap.size) HWD.out.2.2.1 ((Below.refl _ _).grown hg (by rw [World.size_alloc]; omega) (fun j hj => (O4.out.lt j hj).1))); have hz7 : w1.heap.size ≤ w7.heap.size := Nat.le_trans (by rw [World.size_alloc]; omega) hg.4; have B7 : Hid (Later w w7) := Lib.hid (Below.grown (B4.out.alloc _) hg (by rw [World.size_alloc]; omega) (fun j hj => by have := (O4.out.lt j hj).1; omega)); have v0 := V7.out.2.2.2.1; have v1 := V7.out.2.2.2.2; clear ho hg))
        go_roundw
        case rel => exact ⟨k + 1, _, _, by go_num, by omega, HR', O7.out.far (by omega) _ _, V7.out.set _, WD7.out.far (by omega) _ _, by rw [World.size_setCell]; exact hz7, B7.out.setCell (by simp) _⟩
        case measure => simp [intOf]; omega
    · obtain rfl : k = m := by omega
      have v0 := V2.out.2.2.2.1; have v1 := V2.out.2.2.2.2
      have r0 := V2.out.2.1; have r1 := V2.out.2.2.1
      obtain ⟨a, cp, rfl, hcp, hsg, hab⟩ := O2.out.sgs
      have HSG := Lib.hid hsg
      clear hsg hab
      have HEND := Lib.hid (rd_end HLO.out HR.out (by rw [← HQ.out]; exact HQM.out))
      cases hL : layB L
      · have HX := Lib.hid (rd_no HEND.out hL)
        go_wp2_with (go_at_call 14; refine (i_IsLayout _ _ _ L _ (HSG.out.later (by repeat (first | (with_reducible exact Later.refl _) | (with_reducible refine Later.drewN ?_ _) | (with_reducible refine Later.drew ?_))))).mono ?_; rw [hL]; rintro e w5 ⟨rfl, hb5⟩; have B5 := Lib.hid (Later.trans B2.out hb5); have V5 := Lib.hid (V2.out.later hb5); have r0 := V5.out.2.1; have r1 := V5.out.2.2.1; clear hb5)
        refine bodyPost_ret (v := .tuple #[.agg #[.slice none 0 0], .bool false]) (by simp [results, Tryd.results5, go_sem, *] <;> omega) rfl ⟨(by repeat (first | (with_reducible exact Later.refl _) | (with_reducible exact Hid.out (by assumption)) | (with_reducible refine Later.alloc ?_ _) | (with_reducible refine Later.setCell ?_ (by simp) _) | (with_reducible refine Later.drewN ?_ _) | (with_reducible refine Later.drew ?_) | (with_reducible refine Later.trans ?_ (Hid.out (by assumption))))), .inr ⟨HX.out, rfl⟩⟩
      · have HX0 : Hid (layTx L = linTx L) := Lib.hid (by unfold layTx; rw [if_pos hL])
        by_cases hq : layTx L = l
        · have e1 : ((tx (layTx L)).toList == s.toList) = true := by
            rw [Lib.toList_data, Lib.toList_data, ← HL.out, hq]; simp [tx]
          have HLL : Hid (l = linTx L) := Lib.hid (by rw [← hq]; exact HX0.out)
          clear hq
          go_wp2_with (first | (go_at_call 14; refine (i_IsLayout _ _ _ L _ (HSG.out.later (by repeat (first | (with_reducible exact Later.refl _) | (with_reducible refine Later.drewN ?_ _) | (with_reducible refine Later.drew ?_))))).mono ?_; rw [hL]; rintro e w5 ⟨rfl, hb5⟩; have B5 := Lib.hid (Later.trans B2.out hb5); have V5 := Lib.hid (V2.out.later hb5); have S5 := Lib.hid (HSG.out.later hb5); have O5 := Lib.hid (O2.out.below hb5); have v0 := V5.out.2.2.2.1; clear hb5) | (go_at_call 15; refine (i_LayoutText _ _ _ L _ S5.out (HT.out.later B5.out)).mono ?_; rintro e w6 ⟨rfl, hb6⟩; have B6 := Lib.hid (Later.trans B5.out hb6); have V6 := Lib.hid (V5.out.later hb6); have O6 := Lib.hid (O5.out.below hb6); have v0 := V6.out.2.2.2.1; have r0 := V6.out.2.1; have r1 := V6.out.2.2.1; clear hb6))
          refine bodyPost_ret (v := .tuple #[.agg #[.slice a L.length cp], .bool true]) (by simp [results, Tryd.results5, go_sem, *] <;> omega) rfl ⟨(by repeat (first | (with_reducible exact Later.refl _) | (with_reducible exact Hid.out (by assumption)) | (with_reducible refine Later.alloc ?_ _) | (with_reducible refine Later.setCell ?_ (by simp) _) | (with_reducible refine Later.drewN ?_ _) | (with_reducible refine Later.drew ?_) | (with_reducible refine Later.trans ?_ (Hid.out (by assumption))))), .inl ⟨L, _, hL, HLL.out, rfl, (O6.out.far (by omega) _ _).mono (by omega)⟩⟩
        · have e1 : ((tx (layTx L)).toList == s.toList) = false := by
            rw [Lib.toList_data, Lib.toList_data, ← HL.out]
            show (layTx L == l) = false
            simpa using hq
          have HX := Lib.hid (rd_ne HEND.out hq)
          clear hq
          go_wp2_with (first | (go_at_call 14; refine (i_IsLayout _ _ _ L _ (HSG.out.later (by repeat (first | (with_reducible exact Later.refl _) | (with_reducible refine Later.drewN ?_ _) | (with_reducible refine Later.drew ?_))))).mono ?_; rw [hL]; rintro e w5 ⟨rfl, hb5⟩; have B5 := Lib.hid (Later.trans B2.out hb5); have V5 := Lib.hid (V2.out.later hb5); have S5 := Lib.hid (HSG.out.later hb5); have O5 := Lib.hid (O2.out.below hb5); have v0 := V5.out.2.2.2.1; clear hb5) | (go_at_call 15; refine (i_LayoutText _ _ _ L _ S5.out (HT.out.later B5.out)).mono ?_; rintro e w6 ⟨rfl, hb6⟩; have B6 := Lib.hid (Later.trans B5.out hb6); have V6 := Lib.hid (V5.out.later hb6); have O6 := Lib.hid (O5.out.below hb6); have v0 := V6.out.2.2.2.1; have r0 := V6.out.2.1; have r1 := V6.out.2.2.1; clear hb6))
          refine bodyPost_ret (v := .tuple #[.agg #[.slice none 0 0], .bool false]) (by simp [results, Tryd.results5, go_sem, *] <;> omega) rfl ⟨(by repeat (first | (with_reducible exact Later.refl _) | (with_reducible exact Hid.out (by assumption)) | (with_reducible refine Later.alloc ?_ _) | (with_reducible refine Later.setCell ?_ (by simp) _) | (with_reducible refine Later.drewN ?_ _) | (with_reducible refine Later.drew ?_) | (with_reducible refine Later.trans ?_ (Hid.out (by assumption))))), .inr ⟨HX.out, rfl⟩⟩
end Go.Proofs.YtkhhoajoionlfaaDoor
