/- Contracts of chapter 10: moves, of the program. -/
import Derived.Test.YtdaihpkjnigjgaaTfJ
import Derived.Test.YtdaihpkjnigjgaaApp
import Derived.Laws.CopyOwn
import Derived.Deep.RegionLaw
import Derived.Deep.DeepMust
import Derived.StillTailTactics
namespace Go.Proofs.Ytdaihpkjnigjgaa
open Go.RowKit
set_option maxHeartbeats 4000000
set_option linter.unusedVariables false
set_option linter.unusedSimpArgs false
theorem tf_size : (Try.prog.info? 2).map (·.size) = some 1 := by kernel_rfl
/-- a traffic of the call's own in a box -/
def TBox (W : World) (base p g n : Nat) (B : Int) (l : List Int) : Prop :=
  base ≤ p ∧ p < W.heap.size ∧ p ≠ g ∧ W.cell? ⟨p, 0, none⟩ = some (.int .i64 B) ∧ W.cell? ⟨p, 1, none⟩ = some (.slice (some ⟨g, 0, none⟩) n n) ∧ Own W base (.slice (some ⟨g, 0, none⟩) n n) l ∧ l.length = n
theorem TBox.later {W W1 : World} {base p g n : Nat} {B : Int} {l : List Int} (h : TBox W base p g n B l) (k : Later W W1) : TBox W1 base p g n B l := by
  obtain ⟨h1, h2, h3, h4, h5, h6, h7⟩ := h
  exact ⟨h1, Nat.lt_of_lt_of_le h2 k.size, h3, by rw [k.cell (p := ⟨p, 0, none⟩) h2]; exact h4, by rw [k.cell (p := ⟨p, 1, none⟩) h2]; exact h5, tf_lat h6 k, h7⟩
theorem TBox.mono {W : World} {b1 b2 p g n : Nat} {B : Int} {l : List Int} (h : TBox W b1 p g n B l) (hb : b2 ≤ b1) : TBox W b2 p g n B l := by
  obtain ⟨h1, h2, h3, h4, h5, h6, h7⟩ := h
  exact ⟨by omega, h2, h3, h4, h5, tf_mono h6 hb, h7⟩
theorem made_row {w2 : World} {base g n : Nat} (h : w2.ownsRow base 2 1 (.slice (some ⟨g, 0, none⟩) n n) n (madeCells (Value.int .i64 0).cells (n * 1)).toList) :
    Hid (w2.heap[g]? = some (.cells (List.replicate n (Value.int .i64 0)).toArray 2 (0, 0))) ∧ base ≤ g := by
  rcases h.2 with ⟨e, _⟩ | ⟨g', c', cur, e, hb, hg, _, _, hsz, hcur⟩
  · cases e
  · cases e
    have hcs : cur.toList = List.replicate n (Value.int .i64 0) := by
      have h1 := hcur
      rw [List.take_of_length_le (by simp; omega)] at h1
      rw [h1]; have := toList_madeCells_one (.int .i64 0) n; simpa [Value.cells] using this
    refine ⟨Lib.hid ?_, hb⟩
    rw [← hcs]
    simpa using hg
/-- a row that is known whole is of the call's own -/
theorem own_row {w : World} {base g n : Nat} {l : List Int} (hb : base ≤ g) (hg : w.heap[g]? = some (.cells (l.map (Value.int .i64)).toArray 2 (0, 0))) (hl : l.length = n) (hn : n ≤ 1000) (hr : ∀ x ∈ l, InR x) : Own w base (.slice (some ⟨g, 0, none⟩) n n) l := by
  subst hl
  refine ⟨⟨by simp, .inr ⟨g, l.length, (l.map (Value.int .i64)).toArray, rfl, hb, hg, Nat.le_refl _, by unfold maxLen; omega, by simp, by simp [List.take_of_length_le]⟩⟩, hr⟩
theorem splice_all {l : List Int} {n : Nat} (hl : l.length = n) : splice (List.replicate n (Value.int .i64 0)) 0 (l.map (Value.int .i64)) = l.map (Value.int .i64) := by
  unfold splice; simp [List.drop_eq_nil_of_le, hl]
theorem copy_new {ops : Array Oper} {rest : List Oper} {o : Oper} {a : Act} {Q : Exit → Act → World → Prop} {w2 : World} (hgd : o.guard = none) (d s : Operand) (dT sT : TypeId)
    (ho : o.op = .call { callee := .builtin .copy, args := #[d, s], argTypes := #[dT, sT] }) (hu : Try.prog.underlying dT = some (.slice 2)) (g n cap b off : Nat) (l : List Int) (hd : a.eval d = .slice (some ⟨g, 0, none⟩) n n) (hs : a.eval s = .slice (some ⟨b, off, none⟩) n cap)
    (hg : w2.heap[g]? = some (.cells (List.replicate n (Value.int .i64 0)).toArray 2 (0, 0))) (hsl : Sl w2 (some ⟨b, off, none⟩) n l) (hn : n ≤ 1000)
    (h : ∀ w', Own w' g (.slice (some ⟨g, 0, none⟩) n n) l → Below g w2 w' → wpList Try.prog ops Q rest (a.put o.dst (goInt n)) w') : wpList Try.prog ops Q (o :: rest) a w2 := by
  have hl := hsl.1
  have hcl : (l.map (Value.int .i64)).length = n := by rw [List.length_map]; exact hl
  refine wpList_copy_splice hgd d s _ _ ho 2 hu tf_size _ _ n n n cap hd hs g 0 (List.replicate n (Value.int .i64 0)) 2 hg (l.map (Value.int .i64)) (by rw [hcl]; simp) (fun _ => ⟨rfl, _, rfl, cells_of_sl (by rw [hl]; exact hsl)⟩) (by rw [hcl]; simp) (by intro v hv; obtain ⟨x, _, rfl⟩ := List.mem_map.1 hv; rfl) g w2 (Below.refl _ _) (Nat.le_refl _) ?_
  intro w3 hg3 hb3
  rw [hcl]
  refine h w3 (own_row (Nat.le_refl _) ?_ hl hn hsl.2.2.2) hb3
  have := hg3.out
  rw [splice_all hl] at this
  exact this
/-- a new traffic in a box of its own -/
def NewBox (w : World) (n : Nat) (B : Int) (l : List Int) (e : Ending) (w' : World) : Prop := ∃ p g, e = .returned (.pointer (some ⟨p, 0, none⟩)) ∧ TBox w' w.heap.size p g n B l ∧ Later w w'
set_option maxRecDepth 100000 in
theorem i_copyOf (B : Int) (a : Option Addr) (n cap : Nat) (l : List Int) (w : World) (hs : Sl w a n l) (n1 : 1 ≤ n) (n2 : n ≤ 1000) :
    Calls Try.prog 104 #[.agg #[.int .i64 B, .slice a n cap]] w (NewBox w n B l) := by
  obtain ⟨b, off, rfl, _⟩ := hs.at 0 n1
  have HS := Lib.hid hs
  have HL := Lib.hid hs.1
  clear hs
  obtain ⟨i0, hi, hz0, hz1, hz2⟩ := info_parts info_i64
  have HI := Lib.hid hi; clear hi
  have HZ0 := Lib.hid hz0; clear hz0
  have HZ1 := Lib.hid hz1; clear hz1
  have HZ2 := Lib.hid hz2; clear hz2
  have hA : Hid (Later w (w.alloc (.cells #[.int .i64 B, .slice (some ⟨b, off, none⟩) n cap] 26))) := Lib.hid ((Later.refl w).alloc _)
  go_enter Try.func104, Try.ntmps104
  go_wp2_with (first
    | (refine wpList_make_full _ rfl _ _ _ rfl w.heap.size 2 i0 (.int .i64 0) 1 Try.underlying24 HI.out HZ0.out HZ1.out _ _ _ _ n rfl rfl (by omega) (by omega) (by rw [HZ2.out]; omega) (by unfold maxLen; omega) (by simp) ?_; intro w2 hown hgrow; have c0 : w2.cell? ⟨w.heap.size, 0, none⟩ = some (.int .i64 B) := hgrow.cell (by simp) (by simp); have c1 : w2.cell? ⟨w.heap.size, 1, none⟩ = some (.slice (some ⟨b, off, none⟩) n cap) := hgrow.cell (by simp) (by simp); obtain ⟨HR, hgb⟩ := made_row hown; have hlt2 := (hown.lt _ rfl).2; have HG : Hid (Later w w2) := Lib.hid (hA.out.trans ((Below.refl _ _).grown hgrow (Nat.le_refl _) (fun k e => by cases e))); have HSL : Hid (Sl w2 (some ⟨b, off, none⟩) n l) := Lib.hid (sl_later HS.out HG.out); have hgs : (w.alloc (.cells #[.int .i64 B, .slice (some ⟨b, off, none⟩) n cap] 26)).heap.size = w.heap.size + 1 := World.size_alloc _ _; rw [hgs] at HR hgb hlt2 ⊢; clear hown hgrow hgs)
    | (refine copy_new (o := ⟨some 11, _, _, _, _, _⟩) rfl _ _ _ _ rfl ?a1 (w.heap.size + 1) n cap b off l ?a3 ?a4 HR.out HSL.out n2 ?_; (case a1 => exact Try.underlying24); (case a3 => rfl); (case a4 => rfl); intro w3 ho hb3; have d0 : w3.cell? ⟨w.heap.size, 0, none⟩ = some (.int .i64 B) := by rw [hb3.cell (p := ⟨w.heap.size, 0, none⟩) (Nat.lt_succ_self _)]; exact c0))
  have hl3 : w.heap.size + 1 < w3.heap.size := (ho.lt _ rfl).2
  have hb := Below.trans HG.out (Below.mono hb3 (Nat.le_succ _))
  have H3 : Hid (Later w w3) := Lib.hid hb
  have HO := Lib.hid ho
  have HT : Hid (TBox (w3.alloc (.cells #[.int .i64 B, .slice (some ⟨w.heap.size + 1, 0, none⟩) n n] 26)) w.heap.size w3.heap.size (w.heap.size + 1) n B l) := Lib.hid ⟨hb.size, by simp, by omega, by simp, by simp, tf_mono (HO.out.alloc _) (Nat.le_succ _), HL.out⟩
  clear hb3 ho hb
  go_ret
  exact ⟨w3.heap.size, w.heap.size + 1, rfl, HT.out, (by repeat (first | (with_reducible exact Later.refl _) | (with_reducible exact Hid.out (by assumption)) | (with_reducible refine Later.alloc ?_ _) | (with_reducible refine Later.setCell ?_ (by simp; omega) _) | (with_reducible refine Later.setCell ?_ (by simp) _) | (with_reducible refine Later.drewN ?_ _) | (with_reducible refine Later.drew ?_) | (with_reducible refine Later.trans ?_ (Hid.out (by assumption)))))⟩
theorem tbox_put {W : World} {base p g n : Nat} {B : Int} {l : List Int} (h : TBox W base p g n B l) (k : Nat) (y : Int) (hy : InR y) : TBox (W.setCell ⟨g, k, none⟩ (.int .i64 y)) base p g n B (l.set k y) ∧ W.grownBy (W.setCell ⟨g, k, none⟩ (.int .i64 y)) (some g) := by
  obtain ⟨h1, h2, h3, h4, h5, h6, h7⟩ := h
  obtain ⟨r1, r2⟩ := own_put h6 h7 k y hy
  exact ⟨⟨h1, by rw [World.size_setCell]; exact h2, h3, r2.cell h4 (by simpa using h3), r2.cell h5 (by simpa using h3), r1, by simpa using h7⟩, r2⟩
theorem i_placeQ (b p : Int) (w : World) (hb : -1000000000000000000 ≤ b) (hb2 : b ≤ 1000000000000000000) (hp : 0 ≤ p) (hp2 : p ≤ 2) : Calls Try.prog 91 #[.int .i64 b, .int .i64 p] w fun e w' => e = .returned (.int .i64 (3 * b + p)) ∧ w' = w :=
  (i_placeIn b p w hb hb2 hp hp2).mono fun _ _ h => ⟨h.1, h.2.symm⟩
theorem i_placeR (b : Int) (w : World) (hb : -1000000000000000000 ≤ b) (hb2 : b ≤ 1000000000000000000) : Calls Try.prog 91 #[.int .i64 b, .int .i64 0] w fun e w' => e = .returned (.int .i64 (3 * b)) ∧ w' = w :=
  (i_placeIn b 0 w hb hb2 (by omega) (by omega)).mono fun _ _ h => ⟨by rw [h.1, Int.add_zero], h.2.symm⟩
set_option maxRecDepth 100000 in
theorem i_advance (base p g n : Nat) (B : Int) (l : List Int) (t : Nat) (w : World) (hb : TBox w base p g n B l) (ht : t < n) (hv : tfB B l = true) :
    Calls Try.prog 105 #[.pointer (some ⟨p, 0, none⟩), .int .i64 t] w fun e w' => e = .returned (.tuple #[]) ∧ TBox w' base p g n B (mvL B l t) ∧ w.grownBy w' (some g) := by
  obtain ⟨b1, b2, n1, n2, hp⟩ := (tfB_iff B l).1 hv
  have hln := hb.2.2.2.2.2.2
  obtain ⟨p1, p2⟩ := plB_at hp t (by omega)
  obtain ⟨y1, y2⟩ := own_at hb.2.2.2.2.2.1 hln t ht
  have c0 := hb.2.2.2.1
  have c1 := hb.2.2.2.2.1
  have m1 : 0 ≤ (gx l t + 1) % (3 * B) := Int.emod_nonneg _ (by omega)
  have m2 : (gx l t + 1) % (3 * B) < 3 * B := Int.emod_lt_of_pos _ (by omega)
  have HP : Hid (TBox (w.drew.setCell ⟨g, t, none⟩ (.int .i64 ((gx l t + 1) % (3 * B)))) base p g n B (mvL B l t) ∧ w.grownBy (w.drew.setCell ⟨g, t, none⟩ (.int .i64 ((gx l t + 1) % (3 * B)))) (some g)) := Lib.hid (by
    obtain ⟨r1, r2⟩ := tbox_put (hb.later (Later.refl w).drew) t ((gx l t + 1) % (3 * B)) ⟨by omega, by omega⟩
    exact ⟨r1, grown_trans (b := w.drew) ⟨rfl, rfl, rfl, Nat.le_refl _, fun _ _ _ => rfl⟩ r2⟩)
  have HB := Lib.hid hb
  clear hb hp hv
  go_enter Try.func105, Try.ntmps105
  go_wp2_with fail
  go_still_tail 19, (by kernel_rfl)
  have z1 : ¬ 3 * B = 0 := by omega
  have z2 : ¬ B = 0 := by omega
  have z3 : (gx l t + 1).tmod (3 * B) = (gx l t + 1) % (3 * B) := Int.tmod_eq_emod_of_nonneg (by omega)
  have z4 : IntKind.i64.wrap (gx l t + 1) = gx l t + 1 := IntWalk.i64_in _ (by omega)
  have z5 : IntKind.i64.wrap ((gx l t + 1) % (3 * B)) = (gx l t + 1) % (3 * B) := IntWalk.i64_in _ (by omega)
  still_call (i_placeR B w.drew (by omega) (by omega))
  refine wpStill_step (fun K hK => ?_)
  go_simp
  refine hK _ ?_
  clear hK K
  refine wpStill_nil ?_
  change wpList _ _ _ _ _ (World.drew _)
  go_wp2_with fail
  exact bodyPost_end (v := .tuple #[]) (by simp [results, Try.results105, go_sem, *]) rfl ⟨rfl, HP.out.1, HP.out.2⟩
/-- a new traffic, handed back -/
def NewT (w : World) (B : Int) (l : List Int) (e : Ending) (w' : World) : Prop := ∃ v, e = .returned (.agg #[.int .i64 B, v]) ∧ Own w' w.heap.size v l ∧ Later w w'
def NewTC (w : World) (B : Int) (l : List Int) (c : Int) (e : Ending) (w' : World) : Prop := ∃ v, e = .returned (.tuple #[.agg #[.int .i64 B, v], .int .i64 c]) ∧ Own w' w.heap.size v l ∧ Later w w'
/-- a result's cells written -/
theorem put_res {w w2 : World} {R : Nat} (hR : w.heap.size ≤ R) (h : Later w w2) {u0 u1 : Value} : Later w ((w2.setCell ⟨R, 0, none⟩ u0).setCell ⟨R, 1, none⟩ u1) :=
  (h.setCell (p := ⟨R, 0, none⟩) hR u0).setCell (p := ⟨R, 1, none⟩) hR u1
theorem own_res {w2 : World} {base R : Nat} {v : Value} {l : List Int} (h : Own w2 base v l) (hR : R < base) {u0 u1 : Value} : Own ((w2.setCell ⟨R, 0, none⟩ u0).setCell ⟨R, 1, none⟩ u1) base v l :=
  (h.kept (grown_set _ _ _ _) (fun k e => by cases e; exact hR)).kept (grown_set _ _ _ _) (fun k e => by cases e; exact hR)
theorem thE_ok {B : Int} {l : List Int} {t : Int} (h0 : thE B l t = 0) : tfB B l = true ∧ hasT l t = true := by
  unfold thE at h0
  cases hv : tfB B l
  · rw [hv] at h0; simp at h0
  · cases hk : hasT l t
    · rw [hv, hk] at h0; simp at h0
    · exact ⟨rfl, rfl⟩
def mtV (B : Int) (l : List Int) (t : Int) : List Int := if thE B l t = 0 then mvL B l t.toNat else []
def mtB (B : Int) (l : List Int) (t : Int) : Int := if thE B l t = 0 then B else 0
theorem i_behindMove (B : Int) (a : Option Addr) (n cap : Nat) (l : List Int) (t : Nat) (w : World) (hs : Sl w a n l) (ht : t < n) (hv : tfB B l = true) :
    Calls Try.prog 88 #[.agg #[.int .i64 B, .slice a n cap], .int .i64 t] w (NewT w B (mvL B l t)) := by
  have HS := Lib.hid hs
  obtain ⟨_, _, n1, n2, _⟩ := (tfB_iff B l).1 hv
  rw [hs.1] at n1 n2
  clear hs
  go_enter Try.func88, Try.ntmps88
  go_wp2_with fail
  refine (i_copyOf _ _ _ _ _ _ (sl_later HS.out (show Later w _ from (by repeat (first | (with_reducible exact Later.refl _) | (with_reducible exact Hid.out (by assumption)) | (with_reducible refine Later.alloc ?_ _) | (with_reducible refine Later.setCell ?_ (by simp; omega) _) | (with_reducible refine Later.setCell ?_ (by simp) _) | (with_reducible refine Later.drewN ?_ _) | (with_reducible refine Later.drew ?_) | (with_reducible refine Later.trans ?_ (Hid.out (by assumption))))))) n1 (by omega)).mono ?_
  rintro e w1 ⟨p, g, rfl, hb, hl⟩
  obtain ⟨H1, hcc, hff, hzz⟩ := later_facts hl; clear hl
  simp only [World.size_alloc] at hzz hcc hff hb
  have r0 : w1.cell? ⟨w.heap.size + 1, 0, none⟩ = some (.int .i64 0) := by rw [hcc _ _ (by omega)]; simp
  have r1 : w1.cell? ⟨w.heap.size + 1, 1, none⟩ = some (.slice none 0 0) := by rw [hcc _ _ (by omega)]; simp
  have r2 : w1.frozen? ⟨w.heap.size + 1, 0, none⟩ = false := by rw [hff _ _ (by omega)]; simp
  have r3 : w1.frozen? ⟨w.heap.size + 1, 1, none⟩ = false := by rw [hff _ _ (by omega)]; simp
  clear hcc hff
  go_wp2_with fail
  have hgb := (hb.2.2.2.2.2.1.lt g rfl).1
  refine (i_advance _ _ _ _ _ _ _ _ hb ht hv).mono ?_
  rintro e w2 ⟨rfl, hb2, hg⟩
  have d0 := hg.cell r0 (by simp; omega)
  have d1 := hg.cell r1 (by simp; omega)
  have d2 : w2.frozen? ⟨w.heap.size + 1, 0, none⟩ = false := by rw [World.frozen?_of_block (w := w1) (hg.block (w.heap.size + 1) (by omega) (by simp; omega))]; exact r2
  have d3 : w2.frozen? ⟨w.heap.size + 1, 1, none⟩ = false := by rw [World.frozen?_of_block (w := w1) (hg.block (w.heap.size + 1) (by omega) (by simp; omega))]; exact r3
  have c0 := hb2.2.2.2.1
  have c1 := hb2.2.2.2.2.1
  have hl1 : Later w w1 := ((Later.refl w).alloc _).alloc _ |>.trans H1.out
  have H2 : Hid (Later w w2) := Lib.hid (Below.grown hl1 hg hl1.size (fun k e => by cases e; omega))
  have HO := Lib.hid hb2.2.2.2.2.2.1
  clear hb hb2 hg r0 r1 r2 r3 hl1
  go_wp2_with fail
  exact bodyPost_ret (v := .agg #[.int .i64 B, .slice (some ⟨g, 0, none⟩) n n]) (by simp [results, Try.results88, go_sem, *]) rfl ⟨_, rfl, tf_mono (own_res HO.out (by omega)) (by omega), put_res (by omega) H2.out⟩
theorem i_MovedTrain (B : Int) (a : Option Addr) (n cap : Nat) (l : List Int) (t : Int) (w : World) (hs : Sl w a n l) :
    Calls Try.prog 33 #[.agg #[.int .i64 B, .slice a n cap], .int .i64 t] w (NewTC w (mtB B l t) (mtV B l t) (thE B l t)) := by
  have HS := Lib.hid hs
  have HL := Lib.hid hs.1
  clear hs
  by_cases h0 : thE B l t = 0
  · obtain ⟨hv, hk⟩ := thE_ok h0
    obtain ⟨k1, k2⟩ := (hasT_iff l t).1 hk
    rw [HL.out] at k2
    obtain ⟨tn, rfl⟩ := Int.eq_ofNat_of_zero_le k1
    have ht : tn < n := by omega
    have HV : Hid (mtV B l tn = mvL B l tn) := Lib.hid (by unfold mtV; rw [if_pos h0]; rfl)
    have HB : Hid (mtB B l tn = B) := Lib.hid (by unfold mtB; rw [if_pos h0])
    have HE := Lib.hid h0
    clear h0
    go_enter Try.func33, Try.ntmps33
    go_wp2_with fail
    refine (i_trainError _ _ _ _ _ _ _ (sl_later HS.out (show Later w _ from (by repeat (first | (with_reducible exact Later.refl _) | (with_reducible exact Hid.out (by assumption)) | (with_reducible refine Later.alloc ?_ _) | (with_reducible refine Later.setCell ?_ (by simp; omega) _) | (with_reducible refine Later.setCell ?_ (by simp) _) | (with_reducible refine Later.drewN ?_ _) | (with_reducible refine Later.drew ?_) | (with_reducible refine Later.trans ?_ (Hid.out (by assumption)))))))).mono ?_
    rintro e w1 ⟨rfl, hl⟩
    rw [HE.out]
    obtain ⟨H1, hcc, hff, hzz⟩ := later_facts hl; clear hl
    simp only [World.size_alloc] at hzz hcc hff
    have q0 : w1.cell? ⟨w.heap.size, 0, none⟩ = some (.int .i64 B) := by rw [hcc _ _ (by omega)]; simp
    have q1 : w1.cell? ⟨w.heap.size, 1, none⟩ = some (.slice a n cap) := by rw [hcc _ _ (by omega)]; simp
    have r0 : w1.cell? ⟨w.heap.size + 1, 0, none⟩ = some (.int .i64 0) := by rw [hcc _ _ (by omega)]; simp
    have r1 : w1.cell? ⟨w.heap.size + 1, 1, none⟩ = some (.slice none 0 0) := by rw [hcc _ _ (by omega)]; simp
    have r2 : w1.frozen? ⟨w.heap.size + 1, 0, none⟩ = false := by rw [hff _ _ (by omega)]; simp
    have r3 : w1.frozen? ⟨w.heap.size + 1, 1, none⟩ = false := by rw [hff _ _ (by omega)]; simp
    clear hcc hff
    go_wp2_with fail
    refine (i_behindMove _ _ _ _ _ _ _ (sl_later HS.out (show Later w _ from (by repeat (first | (with_reducible exact Later.refl _) | (with_reducible exact Hid.out (by assumption)) | (with_reducible refine Later.alloc ?_ _) | (with_reducible refine Later.setCell ?_ (by simp; omega) _) | (with_reducible refine Later.setCell ?_ (by simp) _) | (with_reducible refine Later.drewN ?_ _) | (with_reducible refine Later.drew ?_) | (with_reducible refine Later.trans ?_ (Hid.out (by assumption))))))) ht hv).mono ?_
    rintro e w2 ⟨v, rfl, ho, hl⟩
    obtain ⟨H2, hcc, hff, hzz2⟩ := later_facts hl; clear hl
    have d0 : w2.cell? ⟨w.heap.size + 1, 0, none⟩ = some (.int .i64 0) := by rw [hcc _ _ (by omega)]; exact r0
    have d1 : w2.cell? ⟨w.heap.size + 1, 1, none⟩ = some (.slice none 0 0) := by rw [hcc _ _ (by omega)]; exact r1
    have d2 : w2.frozen? ⟨w.heap.size + 1, 0, none⟩ = false := by rw [hff _ _ (by omega)]; exact r2
    have d3 : w2.frozen? ⟨w.heap.size + 1, 1, none⟩ = false := by rw [hff _ _ (by omega)]; exact r3
    obtain ⟨a2, c2, rfl, _, _⟩ := ho.sl
    have HO := Lib.hid ho
    have H3 : Hid (Later w w2) := Lib.hid (by repeat (first | (with_reducible exact Later.refl _) | (with_reducible exact Hid.out (by assumption)) | (with_reducible refine Later.alloc ?_ _) | (with_reducible refine Later.setCell ?_ (by simp; omega) _) | (with_reducible refine Later.setCell ?_ (by simp) _) | (with_reducible refine Later.drewN ?_ _) | (with_reducible refine Later.drew ?_) | (with_reducible refine Later.trans ?_ (Hid.out (by assumption)))))
    clear hcc hff ho q0 q1 r0 r1 r2 r3
    go_wp2_with fail
    exact bodyPost_ret (v := .tuple #[.agg #[.int .i64 B, .slice a2 (mvL B l tn).length c2], .int .i64 0]) (by simp [results, Try.results33, go_sem, *]) rfl ⟨_, by rw [HB.out, HE.out], by rw [HV.out]; exact tf_mono (own_res HO.out (by omega)) (by omega), put_res (by omega) H3.out⟩
  · have HV : Hid (mtV B l t = []) := Lib.hid (by unfold mtV; rw [if_neg h0])
    have HB : Hid (mtB B l t = 0) := Lib.hid (by unfold mtB; rw [if_neg h0])
    have e0 : (thE B l t != 0) = true := by simpa using h0
    obtain ⟨c, hc⟩ : ∃ c, c = thE B l t := ⟨_, rfl⟩
    have HC := Lib.hid hc
    rw [← hc] at e0
    clear h0 hc
    go_enter Try.func33, Try.ntmps33
    go_wp2_with fail
    refine (i_trainError _ _ _ _ _ _ _ (sl_later HS.out (show Later w _ from (by repeat (first | (with_reducible exact Later.refl _) | (with_reducible exact Hid.out (by assumption)) | (with_reducible refine Later.alloc ?_ _) | (with_reducible refine Later.setCell ?_ (by simp; omega) _) | (with_reducible refine Later.setCell ?_ (by simp) _) | (with_reducible refine Later.drewN ?_ _) | (with_reducible refine Later.drew ?_) | (with_reducible refine Later.trans ?_ (Hid.out (by assumption)))))))).mono ?_
    rintro e w1 ⟨rfl, hl⟩
    rw [← HC.out]
    obtain ⟨H1, hcc, hff, hzz⟩ := later_facts hl; clear hl
    simp only [World.size_alloc] at hzz hcc hff
    have r0 : w1.cell? ⟨w.heap.size + 1, 0, none⟩ = some (.int .i64 0) := by rw [hcc _ _ (by omega)]; simp
    have r1 : w1.cell? ⟨w.heap.size + 1, 1, none⟩ = some (.slice none 0 0) := by rw [hcc _ _ (by omega)]; simp
    have r2 : w1.frozen? ⟨w.heap.size + 1, 0, none⟩ = false := by rw [hff _ _ (by omega)]; simp
    have r3 : w1.frozen? ⟨w.heap.size + 1, 1, none⟩ = false := by rw [hff _ _ (by omega)]; simp
    have H2 : Hid (Later w w1) := Lib.hid (by repeat (first | (with_reducible exact Later.refl _) | (with_reducible exact Hid.out (by assumption)) | (with_reducible refine Later.alloc ?_ _) | (with_reducible refine Later.setCell ?_ (by simp; omega) _) | (with_reducible refine Later.setCell ?_ (by simp) _) | (with_reducible refine Later.drewN ?_ _) | (with_reducible refine Later.drew ?_) | (with_reducible refine Later.trans ?_ (Hid.out (by assumption)))))
    clear hcc hff
    go_wp2_with fail
    exact bodyPost_ret (v := .tuple #[.agg #[.int .i64 0, .slice none 0 0], .int .i64 c]) (by simp [results, Try.results33, go_sem, *]) rfl ⟨.slice none 0 0, by rw [HB.out, HC.out], by rw [HV.out]; exact tf_none _ _, put_res (by omega) H2.out⟩
end Go.Proofs.Ytdaihpkjnigjgaa
