/- Contracts of chapter 4: the first block that is wanted. -/
import Derived.Test.YtnmlkigpiaekjaaBkP
import Derived.Test.YtnmlkigpiaekjaaHeld
namespace Go.Proofs.Ytnmlkigpiaekjaa
open Go.RowKit Go.Shelf
attribute [local go_sem] Oper.semAt_some
set_option maxHeartbeats 4000000
set_option linter.unusedVariables false
set_option linter.unusedSimpArgs false
/-- five numbers at a place -/
def ScAt (w : World) (b : Nat) (x : Sc) : Prop :=
  w.cell? ⟨b, 0, none⟩ = some (.int .i64 x.n) ∧ w.cell? ⟨b, 1, none⟩ = some (.int .i64 x.f) ∧ w.cell? ⟨b, 2, none⟩ = some (.int .i64 x.l) ∧ w.cell? ⟨b, 3, none⟩ = some (.int .i64 x.s) ∧ w.cell? ⟨b, 4, none⟩ = some (.int .i64 x.e)
theorem ScAt.kept {w w' : World} {b : Nat} {x : Sc} {row : Option Nat} (h : ScAt w b x) (hg : w.grownBy w' row) (hr : ∀ r, row = some r → ∃ o : Obj, w.heap[r]? = some o ∧ o.isCells = false) : ScAt w' b x :=
  ⟨cell_kept h.1 hg hr, cell_kept h.2.1 hg hr, cell_kept h.2.2.1 hg hr, cell_kept h.2.2.2.1 hg hr, cell_kept h.2.2.2.2 hg hr⟩
/-- the cells of a result: a block and a code, and that they may be written -/
def ResAt (w : World) (b : Nat) (x : Sc) (c : Int) : Prop :=
  ScAt w b x ∧ w.cell? ⟨b + 1, 0, none⟩ = some (.int .i64 c) ∧ (∀ j, j < 5 → w.frozen? ⟨b, j, none⟩ = false) ∧ w.frozen? ⟨b + 1, 0, none⟩ = false
theorem ResAt.later {w w' : World} {b : Nat} {x : Sc} {c : Int} (h : ResAt w b x c) (k : Later w w') : ResAt w' b x c := by
  obtain ⟨⟨h0, h1, h2, h3, h4⟩, h5, h6, h7⟩ := h
  have hb := cell_lt h0; have hb1 := cell_lt h5
  refine ⟨⟨?_, ?_, ?_, ?_, ?_⟩, ?_, fun j hj => ?_, ?_⟩
  · rw [k.cell (p := ⟨b, 0, none⟩) hb]; exact h0
  · rw [k.cell (p := ⟨b, 1, none⟩) hb]; exact h1
  · rw [k.cell (p := ⟨b, 2, none⟩) hb]; exact h2
  · rw [k.cell (p := ⟨b, 3, none⟩) hb]; exact h3
  · rw [k.cell (p := ⟨b, 4, none⟩) hb]; exact h4
  · rw [k.cell (p := ⟨b + 1, 0, none⟩) hb1]; exact h5
  · rw [Below.frozen (p := ⟨b, j, none⟩) k hb]; exact h6 j hj
  · rw [Below.frozen (p := ⟨b + 1, 0, none⟩) k hb1]; exact h7
theorem cso {w : World} {p q : Addr} {u v : Value} (h : w.cell? q = some u) (hne : p ≠ q) : (w.setCell p v).cell? q = some u := by rw [World.cell?_setCell_other _ _ _ _ hne]; exact h
theorem css {w : World} {p : Addr} {u v : Value} (h : w.cell? p = some u) : (w.setCell p v).cell? p = some v := World.cell?_setCell_same _ _ _ h
/-- a result is written -/
theorem ResAt.put {w : World} {b : Nat} {y : Sc} {d : Int} (h : ResAt w b y d) (x : Sc) (c : Int) :
    ResAt ((((((w.setCell ⟨b, 0, none⟩ (.int .i64 x.n)).setCell ⟨b, 1, none⟩ (.int .i64 x.f)).setCell ⟨b, 2, none⟩ (.int .i64 x.l)).setCell ⟨b, 3, none⟩ (.int .i64 x.s)).setCell ⟨b, 4, none⟩ (.int .i64 x.e)).setCell ⟨b + 1, 0, none⟩ (.int .i64 c)) b x c := by
  obtain ⟨⟨h0, h1, h2, h3, h4⟩, h5, h6, h7⟩ := h
  refine ⟨⟨?_, ?_, ?_, ?_, ?_⟩, ?_, fun j hj => by simp only [World.frozen?_setCell]; exact h6 j hj, by simp only [World.frozen?_setCell]; exact h7⟩
  · exact cso (cso (cso (cso (cso (css (h0)) (by simp)) (by simp)) (by simp)) (by simp)) (by simp)
  · exact cso (cso (cso (cso (css (cso (h1) (by simp))) (by simp)) (by simp)) (by simp)) (by simp)
  · exact cso (cso (cso (css (cso (cso (h2) (by simp)) (by simp))) (by simp)) (by simp)) (by simp)
  · exact cso (cso (css (cso (cso (cso (h3) (by simp)) (by simp)) (by simp))) (by simp)) (by simp)
  · exact cso (css (cso (cso (cso (cso (h4) (by simp)) (by simp)) (by simp)) (by simp))) (by simp)
  · exact css (cso (cso (cso (cso (cso (h5) (by simp)) (by simp)) (by simp)) (by simp)) (by simp))
theorem keeps6 (w : World) (p0 p1 p2 p3 p4 p5 : Addr) (v0 v1 v2 v3 v4 v5 : Value) : KeepsOthers w ((((((w.setCell p0 v0).setCell p1 v1).setCell p2 v2).setCell p3 v3).setCell p4 v4).setCell p5 v5) :=
  (KeepsOthers.setCell _ _ _).trans ((KeepsOthers.setCell _ _ _).trans ((KeepsOthers.setCell _ _ _).trans ((KeepsOthers.setCell _ _ _).trans ((KeepsOthers.setCell _ _ _).trans (KeepsOthers.setCell _ _ _)))))
theorem later6 {w0 w : World} (h : Later w0 w) (b : Nat) (hb : w0.heap.size ≤ b) (v0 v1 v2 v3 v4 v5 : Value) : Later w0 ((((((w.setCell ⟨b, 0, none⟩ v0).setCell ⟨b, 1, none⟩ v1).setCell ⟨b, 2, none⟩ v2).setCell ⟨b, 3, none⟩ v3).setCell ⟨b, 4, none⟩ v4).setCell ⟨b + 1, 0, none⟩ v5) :=
  (((((h.setCell (p := ⟨b, 0, none⟩) hb v0).setCell (p := ⟨b, 1, none⟩) hb v1).setCell (p := ⟨b, 2, none⟩) hb v2).setCell (p := ⟨b, 3, none⟩) hb v3).setCell (p := ⟨b, 4, none⟩) hb v4).setCell (p := ⟨b + 1, 0, none⟩) (Nat.le_succ_of_le hb) v5
theorem post_into {Φ : Fence} {n : Nat} {P : Program} {fn : Func} {R : Ending → World → Prop} {e : Exit} {a : Act} {W : World} (S : World → Prop) (h : S W) (k : ∀ T, S T → bodyPostM Φ n P fn R e a T) : bodyPostM Φ n P fn R e a W := k W h
theorem res_new (w : World) (t1 t2 : TypeId) : ResAt ((w.alloc (.cells #[.int .i64 0, .int .i64 0, .int .i64 0, .int .i64 0, .int .i64 0] t1)).alloc (.cells #[.int .i64 0] t2)) w.heap.size sc0 0 := by
  refine ⟨⟨?_, ?_, ?_, ?_, ?_⟩, ?_, fun j hj => ?_, ?_⟩
  all_goals simp [sc0]
/-- a part of the blocks that ends in x -/
theorem upto_snoc {L : List Sg} {F : List Int} {m : Nat} {pre : List Sc} {x : Sc} (h : pre ++ [x] <+: upto L F m) : ∃ k, k < m ∧ pre = upto L F k ∧ x = sec L F k := by
  have hl := h.length_le
  rw [List.length_append, upto_len, List.length_singleton] at hl
  have e := List.prefix_iff_eq_take.1 h
  have e2 : (upto L F m).take (pre ++ [x]).length = upto L F (pre.length + 1) := by
    unfold upto
    rw [← List.map_take, List.take_range]
    congr 2
    simp; omega
  rw [e2, upto_succ] at e
  have := List.append_inj' e rfl
  exact ⟨pre.length, by omega, this.1, by simpa using this.2⟩
set_option maxRecDepth 100000 in
theorem f_isNo_no (a : Option Addr) (n cap : Nat) (L : List Sg) (A : Option Addr) (m capF : Nat) (F : List Int) (p : Int) (B : Nat) (w : World) (hs : Sgs w a n L) (hf : Sl w A m F) (hcF : m ≤ capF) (hb : bkB L F = false) :
    Calls Try.prog 88 #[.agg #[.slice a n cap], .slice A m capF, .func (.func 89) #[] #[.pointer (some ⟨B, 0, none⟩)]] w fun e w' => e = .returned (.tuple #[scV sc0, .int .i64 1]) ∧ Later w w' := by
  have HS := Lib.hid hs; have HF := Lib.hid hf
  clear hs hf
  go_enter Try.func88, Try.ntmps88
  go_wp2_with (go_at_call 105; refine (i_AreBlocks a n cap L A m capF F _ (HS.out.later (by repeat (first | (with_reducible exact Later.refl _) | (with_reducible exact Hid.out (by assumption)) | (with_reducible refine Later.alloc ?_ _) | (with_reducible refine Later.setCell ?_ (by simp; omega) _) | (with_reducible refine Later.setCell ?_ (by simp) _) | (with_reducible refine Later.drewN ?_ _) | (with_reducible refine Later.drew ?_) | (with_reducible refine Later.trans ?_ (Hid.out (by assumption)))))) (HF.out.later (by repeat (first | (with_reducible exact Later.refl _) | (with_reducible exact Hid.out (by assumption)) | (with_reducible refine Later.alloc ?_ _) | (with_reducible refine Later.setCell ?_ (by simp; omega) _) | (with_reducible refine Later.setCell ?_ (by simp) _) | (with_reducible refine Later.drewN ?_ _) | (with_reducible refine Later.drew ?_) | (with_reducible refine Later.trans ?_ (Hid.out (by assumption)))))) hcF).mono ?_; rw [hb]; rintro e w1 ⟨rfl, hb1⟩; obtain ⟨H, hcc, hff, hzz⟩ := later_facts hb1; clear hb1; (try simp at hzz); have hz0 : w.heap.size < w1.heap.size := (by omega); have hz1 : w.heap.size + 1 < w1.heap.size := (by omega); have hz2 : w.heap.size + 1 + 1 < w1.heap.size := (by omega); have hz3 : w.heap.size + 1 + 1 + 1 < w1.heap.size := (by omega))
  refine bodyPost_ret (v := .tuple #[scV sc0, .int .i64 1]) (by simp [results, Try.results88, go_sem, scV, sc0, *] <;> omega) rfl ⟨rfl, (by repeat (first | (with_reducible exact Later.refl _) | (with_reducible exact Hid.out (by assumption)) | (with_reducible refine Later.alloc ?_ _) | (with_reducible refine Later.setCell ?_ (by simp; omega) _) | (with_reducible refine Later.setCell ?_ (by simp) _) | (with_reducible refine Later.drewN ?_ _) | (with_reducible refine Later.drew ?_) | (with_reducible refine Later.trans ?_ (Hid.out (by assumption)))))⟩
set_option maxRecDepth 100000 in
theorem f_isNo_yes (a : Option Addr) (n cap : Nat) (L : List Sg) (A : Option Addr) (m capF : Nat) (F : List Int) (p : Int) (B : Nat) (w : World) (hs : Sgs w a n L) (hf : Sl w A m F) (hcn : n ≤ cap) (hcF : m ≤ capF) (hp : w.cell? ⟨B, 0, none⟩ = some (.int .i64 p)) (hb : bkB L F = true) :
    Calls Try.prog 88 #[.agg #[.slice a n cap], .slice A m capF, .func (.func 89) #[] #[.pointer (some ⟨B, 0, none⟩)]] w fun e w' => e = .returned (.tuple #[scV (fndC L F (isNo p)), .int .i64 (fndE L F (isNo p))]) ∧ Later w w' := by
  have HS := Lib.hid hs; have HF := Lib.hid hf; have HP := Lib.hid hp; have HBK := Lib.hid hb
  have hB := cell_lt hp
  clear hs hf hp
  refine (callsIn_wide (n := 5)).1 ?_
  refine callsIn_of_wp_marks Try.func88 rfl trivial ?_ rfl
  simp only [Try.ntmps88, List.size_toArray, List.length_cons, List.length_nil, Nat.reduceAdd, Nat.reduceSub, Array.replicate_succ, Array.replicate_zero, List.push_toArray, List.append_toArray, List.nil_append, List.cons_append]
  gi_wp2_with fail
  refine ⟨trivial, ?_⟩
  refine (callsIn_wide.2 (i_AreBlocks a n cap L A m capF F _ (HS.out.later (by repeat (first | (with_reducible exact Later.refl _) | (with_reducible exact Hid.out (by assumption)) | (with_reducible refine Later.alloc ?_ _) | (with_reducible refine Later.setCell ?_ (by simp; omega) _) | (with_reducible refine Later.setCell ?_ (by simp) _) | (with_reducible refine Later.drewN ?_ _) | (with_reducible refine Later.drew ?_) | (with_reducible refine Later.trans ?_ (Hid.out (by assumption)))))) (HF.out.later (by repeat (first | (with_reducible exact Later.refl _) | (with_reducible exact Hid.out (by assumption)) | (with_reducible refine Later.alloc ?_ _) | (with_reducible refine Later.setCell ?_ (by simp; omega) _) | (with_reducible refine Later.setCell ?_ (by simp) _) | (with_reducible refine Later.drewN ?_ _) | (with_reducible refine Later.drew ?_) | (with_reducible refine Later.trans ?_ (Hid.out (by assumption)))))) hcF)).mono ?_
  rw [HBK.out]
  rintro e w1 ⟨rfl, hb1⟩
  have R1 := (res_new _ _ _).later hb1
  have cl : w1.cell? ⟨w.heap.size, 0, none⟩ = some (.slice a n cap) := by rw [hb1.cell (p := ⟨w.heap.size, 0, none⟩) (by simp; omega), World.cell?_alloc_lt _ _ ⟨w.heap.size, 0, none⟩ (by simp; omega), World.cell?_alloc_lt _ _ ⟨w.heap.size, 0, none⟩ (by simp; omega), World.cell?_alloc_lt _ _ ⟨w.heap.size, 0, none⟩ (by simp)]; simp
  have ci : w1.cell? ⟨w.heap.size + 1, 0, none⟩ = some (.func (.func 89) #[] #[.pointer (some ⟨B, 0, none⟩)]) := by rw [hb1.cell (p := ⟨w.heap.size + 1, 0, none⟩) (by simp), World.cell?_alloc_lt _ _ ⟨w.heap.size + 1, 0, none⟩ (by simp), World.cell?_alloc_lt _ _ ⟨w.heap.size + 1, 0, none⟩ (by simp)]; simp
  have H1 : Hid (Later w w1) := Lib.hid (Later.trans (by repeat (first | (with_reducible exact Later.refl _) | (with_reducible exact Hid.out (by assumption)) | (with_reducible refine Later.alloc ?_ _) | (with_reducible refine Later.setCell ?_ (by simp; omega) _) | (with_reducible refine Later.setCell ?_ (by simp) _) | (with_reducible refine Later.drewN ?_ _) | (with_reducible refine Later.drew ?_) | (with_reducible refine Later.trans ?_ (Hid.out (by assumption))))) hb1)
  have hz : w.heap.size + 1 + 1 + 1 + 1 ≤ w1.heap.size := by have := hb1.size; simpa using this
  clear hb1
  gi_wp2_with fail
  refine ⟨trivial, ?_⟩
  refine (callsIn_wide.2 (i_sectionsOf a n cap A m capF _)).mono ?_
  rintro e w2 ⟨rfl, rfl⟩
  gi_wp2_with fail
  simp only [World.size_alloc] at R1
  have HBX : Hid (Boxes ((w1.alloc (.cells #[.slice a n cap] 26)).alloc (.cells #[.slice A m capF] 55)) (w1.heap.size + 1) w1.heap.size a n cap L A m capF F) := Lib.hid ⟨by simp, by simp, HS.out.later (by repeat (first | (with_reducible exact Later.refl _) | (with_reducible exact Hid.out (by assumption)) | (with_reducible refine Later.alloc ?_ _) | (with_reducible refine Later.setCell ?_ (by simp; omega) _) | (with_reducible refine Later.setCell ?_ (by simp) _) | (with_reducible refine Later.drewN ?_ _) | (with_reducible refine Later.drew ?_) | (with_reducible refine Later.trans ?_ (Hid.out (by assumption))))), HF.out.later (by repeat (first | (with_reducible exact Later.refl _) | (with_reducible exact Hid.out (by assumption)) | (with_reducible refine Later.alloc ?_ _) | (with_reducible refine Later.setCell ?_ (by simp; omega) _) | (with_reducible refine Later.setCell ?_ (by simp) _) | (with_reducible refine Later.drewN ?_ _) | (with_reducible refine Later.drew ?_) | (with_reducible refine Later.trans ?_ (Hid.out (by assumption))))), hcn, hcF, HBK.out⟩
  obtain ⟨W0, hW0⟩ : ∃ W0, (w1.alloc (.cells #[.slice a n cap] 26)).alloc (.cells #[.slice A m capF] 55) = W0 := ⟨_, rfl⟩
  have H0 : Hid (Later w1 W0) := Lib.hid (by rw [← hW0]; exact (by repeat (first | (with_reducible exact Later.refl _) | (with_reducible exact Hid.out (by assumption)) | (with_reducible refine Later.alloc ?_ _) | (with_reducible refine Later.setCell ?_ (by simp; omega) _) | (with_reducible refine Later.setCell ?_ (by simp) _) | (with_reducible refine Later.drewN ?_ _) | (with_reducible refine Later.drew ?_) | (with_reducible refine Later.trans ?_ (Hid.out (by assumption))))))
  rw [hW0] at HBX ⊢
  clear hW0
  have hz0 := H0.out.size
  have R0 := Lib.hid (R1.later H0.out)
  have HI0 : Hid (W0.cell? ⟨w.heap.size + 1, 0, none⟩ = some (.func (.func 89) #[] #[.pointer (some ⟨B, 0, none⟩)])) := Lib.hid (by rw [H0.out.cell (p := ⟨w.heap.size + 1, 0, none⟩) (by show w.heap.size + 1 < w1.heap.size; omega)]; exact ci)
  have HP0 : Hid (W0.cell? ⟨B, 0, none⟩ = some (.int .i64 p)) := Lib.hid (by rw [(H1.out.trans H0.out).cell (p := ⟨B, 0, none⟩) hB]; exact HP.out)
  have HW0 : Hid (Later w W0) := Lib.hid (H1.out.trans H0.out)
  clear ci cl R1
  refine wpIn_rangeFunc_ownH rfl (by omega) (gf := 120) (lb := #[.pointer (some ⟨w1.heap.size + 1, 0, none⟩), .pointer (some ⟨w1.heap.size, 0, none⟩)]) rfl trivial (enters_of Try.func120 (by kernel_rfl) rfl)
    (i_secs_stops Fence.wide _ trivial rfl (by omega) (w1.heap.size + 1) w1.heap.size a n cap L A m capF F W0 HBX.out) belowK_t (belowK_b (Nat.le_refl _)) (Below.refl _ _) (fun _ => rfl)
    (fun pre W => (∀ x ∈ pre, isNo p x = false) ∧ Below W0.heap.size W0 W)
    (fun c pre W => (c = .ret ∧ (∃ pre0 x, pre = pre0 ++ [x] ∧ (∀ y ∈ pre0, isNo p y = false) ∧ isNo p x = true ∧ ScAt W (w.heap.size + 1 + 1) x) ∧ W.cell? ⟨w.heap.size + 1 + 1 + 1, 0, none⟩ = some (.int .i64 0)) ∧ Below w.heap.size w W)
    (OwnFrom.and (ownFrom_pure _ _) (ownFrom_below (Nat.le_refl _) (Nat.le_refl _)))
    (fun c => OwnFrom.and (Go.Own.from (fun s X Y row hs hg hr => ⟨hs.1, (by obtain ⟨p0, x, h1, h2, h3, h4⟩ := hs.2.1; exact ⟨p0, x, h1, h2, h3, h4.kept hg hr⟩), cell_kept hs.2.2 hg hr⟩) _) (ownFrom_below (Nat.le_refl _) (by omega)))
    ⟨by simp, Below.refl _ _⟩
    (fun x a' W => ∃ Bx, W0.heap.size ≤ Bx ∧ ScAt W Bx x ∧ a' = { tmps := #[.agg #[.slice a n cap], .slice A m capF, .func (.func 89) #[] #[.pointer (some ⟨B, 0, none⟩)], .pointer (some ⟨w.heap.size, 0, none⟩), undef, .pointer (some ⟨w.heap.size + 1, 0, none⟩), .pointer (some ⟨w.heap.size + 1 + 1, 0, none⟩), .pointer (some ⟨w.heap.size + 1 + 1 + 1, 0, none⟩), .pointer (some ⟨Bx, 0, none⟩), .agg #[.slice a n cap], .slice A m capF, .bool true, .bool false, undef, .agg #[.slice a n cap], .slice A m capF, .func (.func 120) #[] #[.pointer (some ⟨w1.heap.size + 1, 0, none⟩), .pointer (some ⟨w1.heap.size, 0, none⟩)], .agg #[.int .i64 x.n, .int .i64 x.f, .int .i64 x.l, .int .i64 x.s, .int .i64 x.e], undef, undef, undef, undef, undef], defers := [] })
    (fun x a' _ X Y row hs hg hr => by obtain ⟨Bx, h1, h2, h3⟩ := hs; exact ⟨Bx, h1, h2.kept hg (fun r e => (hr r e).2), h3⟩)
    ?assign ?body ?done ?stop
  case assign =>
    rintro l pre x W K ⟨hno, hb⟩ hK
    gi_wp2
    have hl : Later W (W.alloc (.cells #[.int .i64 x.n, .int .i64 x.f, .int .i64 x.l, .int .i64 x.s, .int .i64 x.e] 98)) := (Later.refl W).alloc _
    exact hK _ _ ((KeepsOthers.alloc _ _).from _) (hl.mono hb.size) ⟨hno, hb.trans (hl.mono hb.size)⟩ ⟨W.heap.size, hb.size, by unfold ScAt; simp, rfl⟩
  case body =>
    rintro l pre x a' W hl ⟨r, hr⟩ ⟨hno, hb⟩ ⟨Bx, hBx, hcx, rfl⟩ hlt
    have HC := Lib.hid hcx
    obtain ⟨x0, x1, x2, x3, x4⟩ := hcx
    have hbx := cell_lt x0
    have HR := Lib.hid (R0.out.later hb)
    have cI : W.cell? ⟨w.heap.size + 1, 0, none⟩ = some (.func (.func 89) #[] #[.pointer (some ⟨B, 0, none⟩)]) := by rw [hb.cell (p := ⟨w.heap.size + 1, 0, none⟩) (cell_lt HI0.out)]; exact HI0.out
    have HPW : Hid (W.cell? ⟨B, 0, none⟩ = some (.int .i64 p)) := Lib.hid (by rw [hb.cell (p := ⟨B, 0, none⟩) (cell_lt HP0.out)]; exact HP0.out)
    have HB := Lib.hid hb; have HNO := Lib.hid hno
    clear hb hno
    have HLW : Hid (Later w W) := Lib.hid (HW0.out.trans (HB.out.mono (Nat.le_refl _)))
    cases hq : isNo p x
    · gi_wp2_with fail
      refine ⟨trivial, ?_⟩
      refine (CallsIn.inRound l (callsIn_wide.2 (c_isNo x p B W HPW.out))).mono ?_
      rw [hq]
      rintro e w3 ⟨rfl, hb3⟩
      have H3 := Lib.hid hb3
      clear hb3
      gi_wp2
      exact ⟨KeepsFrom.of_grownBy (later_grows H3.out none) (fun j e => by cases e), H3.out.mono HB.out.size, fun y hy => (by
        rw [List.mem_append] at hy
        rcases hy with h | h
        · exact HNO.out y h
        · simp only [List.mem_singleton] at h; rw [h]; exact hq), HB.out.trans (H3.out.mono HB.out.size)⟩
    · gi_wp2_with fail
      refine ⟨trivial, ?_⟩
      refine (CallsIn.inRound l (callsIn_wide.2 (c_isNo x p B W HPW.out))).mono ?_
      rw [hq]
      rintro e w3 ⟨rfl, hb3⟩
      have H3 := Lib.hid hb3
      have K3 : Hid (KeepsFrom W0.heap.size W w3) := Lib.hid (KeepsFrom.of_grownBy (later_grows hb3 none) (fun j e => by cases e))
      have y0 : w3.cell? ⟨Bx, 0, none⟩ = some (.int .i64 x.n) := by rw [hb3.cell (p := ⟨Bx, 0, none⟩) hbx]; exact x0
      have y1 : w3.cell? ⟨Bx, 1, none⟩ = some (.int .i64 x.f) := by rw [hb3.cell (p := ⟨Bx, 1, none⟩) hbx]; exact x1
      have y2 : w3.cell? ⟨Bx, 2, none⟩ = some (.int .i64 x.l) := by rw [hb3.cell (p := ⟨Bx, 2, none⟩) hbx]; exact x2
      have y3 : w3.cell? ⟨Bx, 3, none⟩ = some (.int .i64 x.s) := by rw [hb3.cell (p := ⟨Bx, 3, none⟩) hbx]; exact x3
      have y4 : w3.cell? ⟨Bx, 4, none⟩ = some (.int .i64 x.e) := by rw [hb3.cell (p := ⟨Bx, 4, none⟩) hbx]; exact x4
      have HR3 := Lib.hid (HR.out.later hb3)
      obtain ⟨⟨r0, r1, r2, r3, r4⟩, r5, r6, r7⟩ := HR3.out
      have f0 := r6 0 (by omega); have f1 := r6 1 (by omega); have f2 := r6 2 (by omega); have f3 := r6 3 (by omega); have f4 := r6 4 (by omega)
      clear hb3 r6 x0 x1 x2 x3 x4 cI
      gi_wp2
      refine ⟨KeepsFrom.trans K3.out (by repeat (first | (with_reducible exact KeepsFrom.refl _ _) | (refine KeepsFrom.trans ?_ ((KeepsOthers.setCell _ _ _).from _)))), ⟨rfl, ⟨pre, x, rfl, HNO.out, hq, (HR3.out.put x 0).1⟩, (HR3.out.put x 0).2.1⟩, (show Later w _ from (by repeat (first | (with_reducible exact Later.refl _) | (with_reducible exact Hid.out (by assumption)) | (with_reducible refine Later.alloc ?_ _) | (with_reducible refine Later.setCell ?_ (by simp; omega) _) | (with_reducible refine Later.setCell ?_ (by simp) _) | (with_reducible refine Later.drewN ?_ _) | (with_reducible refine Later.drew ?_) | (with_reducible refine Later.trans ?_ (Hid.out (by assumption))))))⟩
  case done =>
    rintro D ys W hD rfl ⟨hno, hb⟩ hK
    have HR := Lib.hid (R0.out.later hb)
    obtain ⟨⟨r0, r1, r2, r3, r4⟩, r5, r6, r7⟩ := HR.out
    have f0 := r6 0 (by omega); have f1 := r6 1 (by omega); have f2 := r6 2 (by omega); have f3 := r6 3 (by omega); have f4 := r6 4 (by omega)
    have HLW : Hid (Later w W) := Lib.hid (HW0.out.trans (hb.mono (Nat.le_refl _)))
    have HFN : Hid (fndC L F (isNo p) = sc0 ∧ fndE L F (isNo p) = 2) := Lib.hid (fndC_none HBK.out (fnd_no (fun i hi => hno _ (List.mem_map.2 ⟨i, List.mem_range.2 (by rw [← HF.out.1]; exact hi), rfl⟩))))
    clear r6 hno hb
    gi_wp2
    refine post_into (fun T => ResAt T (w.heap.size + 1 + 1) sc0 2 ∧ T.heap[D]? = some (.deferred (some [])) ∧ Later w T) ⟨HR.out.put sc0 2, (keeps6 _ _ _ _ _ _ _ _ _ _ _ _ _).same D _ hK rfl, later6 HLW.out _ (by omega) _ _ _ _ _ _⟩ ?_
    rintro T ⟨HQ, KQ, LQ⟩
    refine ⟨by simp, .inl ⟨_, _, rfl, run_takeDeferred KQ, ?_⟩⟩
    have HQ2 := HQ.1.kept (grownBy_putObj' _ D (.deferred none)) (fun r e => by cases e; exact ⟨_, KQ, rfl⟩)
    have HQ3 := cell_kept HQ.2.1 (grownBy_putObj' _ D (.deferred none)) (fun r e => by cases e; exact ⟨_, KQ, rfl⟩)
    obtain ⟨q0, q1, q2, q3, q4⟩ := HQ2
    refine ⟨.tuple #[scV sc0, .int .i64 2], ?_, by rw [HFN.out.1, HFN.out.2], Below.trans LQ (belowK_b (w := w) (Nat.le_refl _) T D _ _ (by have := HW0.out.size; omega) KQ rfl rfl)⟩
    simp [results, Try.f88, go_sem, q0, q1, q2, q3, q4, HQ3, scV]
  case stop =>
    rintro D c pre W hD hpre ⟨⟨rfl, ⟨pre0, x, rfl, hno, hq, hx⟩, hc⟩, hb⟩ hK
    gi_wp2
    have HFN : Hid (fndC L F (isNo p) = x ∧ fndE L F (isNo p) = 0) := Lib.hid (by
      obtain ⟨k, hk, e1, e2⟩ := upto_snoc hpre
      have hkm : k < F.length := by rw [HF.out.1]; exact hk
      have := fndC_some HBK.out (fnd_yes (p := isNo p) hkm (by rw [← e2]; exact hq) (fun i hi => hno _ (by rw [e1]; exact List.mem_map.2 ⟨i, List.mem_range.2 hi, rfl⟩)))
      rw [e2]; exact this)
    refine ⟨by simp, .inl ⟨_, _, rfl, run_takeDeferred hK, ?_⟩⟩
    have HQ2 := hx.kept (grownBy_putObj' _ D (.deferred none)) (fun r e => by cases e; exact ⟨_, hK, rfl⟩)
    have HQ3 := cell_kept hc (grownBy_putObj' _ D (.deferred none)) (fun r e => by cases e; exact ⟨_, hK, rfl⟩)
    obtain ⟨q0, q1, q2, q3, q4⟩ := HQ2
    refine ⟨.tuple #[scV x, .int .i64 0], ?_, by rw [HFN.out.1, HFN.out.2], hb.trans (belowK_b (w := w) (Nat.le_refl _) W D _ _ (by have := HW0.out.size; omega) hK rfl rfl)⟩
    simp [results, Try.f88, go_sem, q0, q1, q2, q3, q4, HQ3, scV]
theorem f_isNo (a : Option Addr) (n cap : Nat) (L : List Sg) (A : Option Addr) (m capF : Nat) (F : List Int) (p : Int) (B : Nat) (w : World) (hs : Sgs w a n L) (hf : Sl w A m F) (hcn : n ≤ cap) (hcF : m ≤ capF) (hp : w.cell? ⟨B, 0, none⟩ = some (.int .i64 p)) :
    Calls Try.prog 88 #[.agg #[.slice a n cap], .slice A m capF, .func (.func 89) #[] #[.pointer (some ⟨B, 0, none⟩)]] w fun e w' => e = .returned (.tuple #[scV (fndC L F (isNo p)), .int .i64 (fndE L F (isNo p))]) ∧ Later w w' := by
  cases hb : bkB L F
  · rw [(fndC_bad (p := isNo p) hb).1, (fndC_bad (p := isNo p) hb).2]
    exact f_isNo_no a n cap L A m capF F p B w hs hf hcF hb
  · exact f_isNo_yes a n cap L A m capF F p B w hs hf hcn hcF hp hb
end Go.Proofs.Ytnmlkigpiaekjaa
