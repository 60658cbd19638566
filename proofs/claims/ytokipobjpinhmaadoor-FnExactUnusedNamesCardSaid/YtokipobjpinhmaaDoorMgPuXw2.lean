/- Remembered variables and unused names, of the program. | Names laid together, of any number; names by a condition, of programs that are not sound; UnusedNames of the program. | The model's lists of names: looked up, twice, all, readable. | The model's l14Fault. | The model's ProgramFault, IsSound and l14Code. | UnusedNames of the model. | The laws' helpers on programs: marks. | The laws' helpers on programs: markProgram. | The laws' helpers on texts of the call's own: marked, held. | The walk of the exact law on UnusedNames. -/
import Derived.Test.YtokipobjpinhmaaDoorMgPuXw1
import Derived.Deep.RegionLaw
import Derived.Test.YtokipobjpinhmaaDoorPsWa
import Derived.Test.YtokipobjpinhmaaDoorTkF
import Derived.Test.YtokipobjpinhmaaDoorOwnT
namespace Go.Proofs.YtokipobjpinhmaaDoor
open Go.RowKit Go.Shelf
set_option maxHeartbeats 4000000
set_option maxRecDepth 100000
set_option linter.unusedVariables false
set_option linter.unusedSimpArgs false
theorem i_isRemembered (v : Value) (p : Prg) (x : List UInt8) (w : World) (hp : PgV w v p) (hw : wrtB p = true) : Calls Tryd.prog 54 #[v, .string (tx x)] w fun e w' => e = .returned (.bool (rmB p.lns x)) ∧ Later w w' := by
  have LU := Lib.hid (fun W (h : Later w W) => i_linesUsing v p x W (hp.later h) hw)
  have h40 := (wb_of p hw).2.2.2.2.2.1
  have HTL : (tgs p.lns).length ≤ 1048576 := by rw [tgs_len]; omega
  have TG := Lib.hid (fun W (h : Later w W) => (i_targets v p W (hp.later h) (by omega)).mono fun _ _ q => RetTs.st HTL (hp.shorts.2.2.2.1) q)
  have IX := Lib.hid (fun a n c W h => i_IndexT a n c (tgs p.lns) x W h)
  have HB := Lib.hid (rmB_uses p.lns x (by have := ixV_lo (tgs p.lns) x; rw [tgs_len] at this; omega))
  obtain ⟨a1, c1, a2, c2, a3, c3, a4, c4, rfl, h1, h2, h3, h4, h5, h6⟩ := hp
  clear h1 h2 h3 h4 h5 h6 hw h40 HTL
  obtain ⟨X, hX⟩ : ∃ X, X = tx x := ⟨_, rfl⟩
  rw [← hX] at LU IX ⊢
  generalize rmB p.lns x = V at HB ⊢
  generalize ixV (tgs p.lns) x = r at IX HB
  generalize useV p.lns x = U at LU HB
  obtain ⟨s0, hs0⟩ : ∃ q, q = tx p.nm := ⟨_, rfl⟩
  obtain ⟨s4, hs4⟩ : ∃ q, q = tx p.grd := ⟨_, rfl⟩
  obtain ⟨n1, hn1⟩ : ∃ q, q = p.ins.length := ⟨_, rfl⟩
  obtain ⟨n2, hn2⟩ : ∃ q, q = p.vrs.length := ⟨_, rfl⟩
  obtain ⟨n3, hn3⟩ : ∃ q, q = p.outs.length := ⟨_, rfl⟩
  obtain ⟨n4, hn4⟩ : ∃ q, q = p.lns.length := ⟨_, rfl⟩
  simp only [← hs0, ← hs4, ← hn1, ← hn2, ← hn3, ← hn4] at LU TG ⊢
  clear hs0 hs4 hn1 hn2 hn3 hn4 hX
  have q0 : (w.alloc (.cells #[.string s0, .slice a1 n1 c1, .slice a2 n2 c2, .slice a3 n3 c3, .string s4, .slice a4 n4 c4] 27)).cell? ⟨w.heap.size, 0, none⟩ = some (.string s0) := by rw [cell_of_row _ _ 0 _ _ (0, 0) (heap_alloc_new w _)]; rfl
  have q1 : (w.alloc (.cells #[.string s0, .slice a1 n1 c1, .slice a2 n2 c2, .slice a3 n3 c3, .string s4, .slice a4 n4 c4] 27)).cell? ⟨w.heap.size, 1, none⟩ = some (.slice a1 n1 c1) := by rw [cell_of_row _ _ 1 _ _ (0, 0) (heap_alloc_new w _)]; rfl
  have q2 : (w.alloc (.cells #[.string s0, .slice a1 n1 c1, .slice a2 n2 c2, .slice a3 n3 c3, .string s4, .slice a4 n4 c4] 27)).cell? ⟨w.heap.size, 2, none⟩ = some (.slice a2 n2 c2) := by rw [cell_of_row _ _ 2 _ _ (0, 0) (heap_alloc_new w _)]; rfl
  have q3 : (w.alloc (.cells #[.string s0, .slice a1 n1 c1, .slice a2 n2 c2, .slice a3 n3 c3, .string s4, .slice a4 n4 c4] 27)).cell? ⟨w.heap.size, 3, none⟩ = some (.slice a3 n3 c3) := by rw [cell_of_row _ _ 3 _ _ (0, 0) (heap_alloc_new w _)]; rfl
  have q4 : (w.alloc (.cells #[.string s0, .slice a1 n1 c1, .slice a2 n2 c2, .slice a3 n3 c3, .string s4, .slice a4 n4 c4] 27)).cell? ⟨w.heap.size, 4, none⟩ = some (.string s4) := by rw [cell_of_row _ _ 4 _ _ (0, 0) (heap_alloc_new w _)]; rfl
  have q5 : (w.alloc (.cells #[.string s0, .slice a1 n1 c1, .slice a2 n2 c2, .slice a3 n3 c3, .string s4, .slice a4 n4 c4] 27)).cell? ⟨w.heap.size, 5, none⟩ = some (.slice a4 n4 c4) := by rw [cell_of_row _ _ 5 _ _ (0, 0) (heap_alloc_new w _)]; rfl
  have hW0 : w.heap.size < (w.alloc (.cells #[.string s0, .slice a1 n1 c1, .slice a2 n2 c2, .slice a3 n3 c3, .string s4, .slice a4 n4 c4] 27)).heap.size := by rw [World.size_alloc]; exact Nat.lt_succ_self _
  have C0 : Hid (∀ W', Later (w.alloc (.cells #[.string s0, .slice a1 n1 c1, .slice a2 n2 c2, .slice a3 n3 c3, .string s4, .slice a4 n4 c4] 27)) W' → W'.cell? ⟨w.heap.size, 0, none⟩ = some (.string s0) ∧ W'.cell? ⟨w.heap.size, 1, none⟩ = some (.slice a1 n1 c1) ∧ W'.cell? ⟨w.heap.size, 2, none⟩ = some (.slice a2 n2 c2) ∧ W'.cell? ⟨w.heap.size, 3, none⟩ = some (.slice a3 n3 c3) ∧ W'.cell? ⟨w.heap.size, 4, none⟩ = some (.string s4) ∧ W'.cell? ⟨w.heap.size, 5, none⟩ = some (.slice a4 n4 c4)) := Lib.hid (fun W' q => ⟨by rw [q.cell (p := ⟨w.heap.size, 0, none⟩) hW0]; exact q0, by rw [q.cell (p := ⟨w.heap.size, 1, none⟩) hW0]; exact q1, by rw [q.cell (p := ⟨w.heap.size, 2, none⟩) hW0]; exact q2, by rw [q.cell (p := ⟨w.heap.size, 3, none⟩) hW0]; exact q3, by rw [q.cell (p := ⟨w.heap.size, 4, none⟩) hW0]; exact q4, by rw [q.cell (p := ⟨w.heap.size, 5, none⟩) hW0]; exact q5⟩)
  have A0 : Hid (Later w (w.alloc (.cells #[.string s0, .slice a1 n1 c1, .slice a2 n2 c2, .slice a3 n3 c3, .string s4, .slice a4 n4 c4] 27))) := Lib.hid ((Later.refl _).alloc _)
  clear hW0
  go_enter Tryd.func54, Tryd.ntmps54
  go_wp2_with fail
  generalize (w.alloc (.cells #[.string s0, .slice a1 n1 c1, .slice a2 n2 c2, .slice a3 n3 c3, .string s4, .slice a4 n4 c4] 27)) = W0 at C0 A0 q0 q1 q2 q3 q4 q5 ⊢
  refine (LU.out _ A0.out).mono ?_
  rintro e w1 ⟨u, rfl, ho, hb⟩
  have L1 := Lib.hid (show Later W0 w1 from hb)
  obtain ⟨a, c, rfl, hs, _⟩ := ho.sl
  clear hb ho q0 q1 q2 q3 q4 q5
  obtain ⟨q0, q1, q2, q3, q4, q5⟩ := C0.out _ L1.out
  obtain ⟨n, hn⟩ : ∃ n, n = U.length := ⟨_, rfl⟩
  rw [← hn] at hs HB ⊢
  have hn9 := hs.2.1
  clear hn
  by_cases hz : n = 0
  · have e0 : decide (0 < n) = false := decide_eq_false (by omega)
    have HV : Hid (V = false) := Lib.hid (by rw [HB.out, decide_eq_false (by omega)]; rfl)
    clear hs hz
    go_wp2_with fail
    go_quiet (fail)
    all_goals
      go_wp2
      go_ret
      exact ⟨by rw [HV.out]; rfl, A0.out.trans (L1.out.drewN _)⟩
  · have e0 : decide (0 < n) = true := decide_eq_true (by omega)
    have hn0 : 0 < n := by omega
    have HV : Hid (V = decide (gx U 0 ≤ r)) := Lib.hid (by rw [HB.out, decide_eq_true (by omega), Bool.true_and]; rfl)
    obtain ⟨b, off, rfl, cU⟩ := hs.at 0 (by omega)
    rw [Nat.add_zero] at cU
    generalize gx U 0 = g at cU HV
    have CU := Lib.hid cU
    have KQ : Hid (∀ W', Later w1 W' → (W'.cell? ⟨w.heap.size, 0, none⟩ = some (.string s0) ∧ W'.cell? ⟨w.heap.size, 1, none⟩ = some (.slice a1 n1 c1) ∧ W'.cell? ⟨w.heap.size, 2, none⟩ = some (.slice a2 n2 c2) ∧ W'.cell? ⟨w.heap.size, 3, none⟩ = some (.slice a3 n3 c3) ∧ W'.cell? ⟨w.heap.size, 4, none⟩ = some (.string s4) ∧ W'.cell? ⟨w.heap.size, 5, none⟩ = some (.slice a4 n4 c4)) ∧ W'.cell? ⟨b, off, none⟩ = some (.int .i64 g)) := Lib.hid (fun W' h => ⟨C0.out _ (L1.out.trans h), by rw [h.cell (p := ⟨b, off, none⟩) (cell_lt CU.out)]; exact CU.out⟩)
    have RL := Lib.hid (Later.refl w1)
    have TG := Lib.hid (fun W (h : Later w1 W) => TG.out W (A0.out.trans (L1.out.trans h)))
    clear hs hz
    go_wp2_with fail
    go_region_held3 (fun W' => (W'.cell? ⟨w.heap.size, 0, none⟩ = some (.string s0) ∧ W'.cell? ⟨w.heap.size, 1, none⟩ = some (.slice a1 n1 c1) ∧ W'.cell? ⟨w.heap.size, 2, none⟩ = some (.slice a2 n2 c2) ∧ W'.cell? ⟨w.heap.size, 3, none⟩ = some (.slice a3 n3 c3) ∧ W'.cell? ⟨w.heap.size, 4, none⟩ = some (.string s4) ∧ W'.cell? ⟨w.heap.size, 5, none⟩ = some (.slice a4 n4 c4)) ∧ W'.cell? ⟨b, off, none⟩ = some (.int .i64 g)) (exact KQ.out _ (by repeat (first | (with_reducible exact Later.refl _) | (with_reducible exact Hid.out (by assumption)) | (with_reducible refine Later.alloc ?_ _) | (with_reducible refine Later.setCell ?_ (by simp; omega) _) | (with_reducible refine Later.setCell ?_ (by simp) _) | (with_reducible refine Later.drewN ?_ _) | (with_reducible refine Later.drew ?_) | (with_reducible refine Later.trans ?_ (Hid.out (by assumption))))))
      (first
        | (go_at_call 59; refine (TG.out _ (by repeat (first | (with_reducible exact Later.refl _) | (with_reducible exact Hid.out (by assumption)) | (with_reducible refine Later.alloc ?_ _) | (with_reducible refine Later.setCell ?_ (by simp; omega) _) | (with_reducible refine Later.setCell ?_ (by simp) _) | (with_reducible refine Later.drewN ?_ _) | (with_reducible refine Later.drew ?_) | (with_reducible refine Later.trans ?_ (Hid.out (by assumption)))))).mono ?_; rintro e w2 ⟨u2, m2, k2, rfl, hn2, hs2, hb⟩; have S2 := Lib.hid hs2; have H2 := Lib.hid hb; clear hn2 hs2 hb)
        | (go_at_call 58; refine (IX.out u2 _ k2 _ (S2.out.later (by repeat (first | (with_reducible exact Later.refl _) | (with_reducible exact Hid.out (by assumption)) | (with_reducible refine Later.alloc ?_ _) | (with_reducible refine Later.setCell ?_ (by simp; omega) _) | (with_reducible refine Later.setCell ?_ (by simp) _) | (with_reducible refine Later.drewN ?_ _) | (with_reducible refine Later.drew ?_) | (with_reducible refine Later.trans ?_ (Hid.out (by assumption))))))).mono ?_; rintro e w' ⟨rfl, rfl⟩))
    all_goals
      go_wp2
      go_ret
      exact ⟨by rw [HV.out]; rfl, A0.out.trans (L1.out.trans (by repeat (first | (with_reducible exact Later.refl _) | (with_reducible exact Hid.out (by assumption)) | (with_reducible refine Later.alloc ?_ _) | (with_reducible refine Later.setCell ?_ (by simp; omega) _) | (with_reducible refine Later.setCell ?_ (by simp) _) | (with_reducible refine Later.drewN ?_ _) | (with_reducible refine Later.drew ?_) | (with_reducible refine Later.trans ?_ (Hid.out (by assumption))))))⟩
theorem i_isUnused (v : Value) (p : Prg) (x : List UInt8) (w : World) (hp : PgV w v p) (hw : wrtB p = true) : Calls Tryd.prog 71 #[v, .string (tx x)] w fun e w' => e = .returned (.bool (unB p x)) ∧ Later w w' := by
  have LU := Lib.hid (fun W (h : Later w W) => i_linesUsing v p x W (hp.later h) hw)
  have EQ := eqx x p.grd
  have HV : Hid (unB p x = (!decide (x = p.grd) && decide ((useV p.lns x).length = 0))) := Lib.hid rfl
  obtain ⟨a1, c1, a2, c2, a3, c3, a4, c4, rfl, h1, h2, h3, h4, h5, h6⟩ := hp
  clear h1 h2 h3 h4 h5 h6 hw
  obtain ⟨X, hX⟩ : ∃ X, X = tx x := ⟨_, rfl⟩
  rw [← hX] at LU EQ ⊢
  generalize unB p x = V at HV ⊢
  generalize useV p.lns x = U at LU HV
  generalize decide (x = p.grd) = g at EQ HV
  obtain ⟨s0, hs0⟩ : ∃ q, q = tx p.nm := ⟨_, rfl⟩
  obtain ⟨s4, hs4⟩ : ∃ q, q = tx p.grd := ⟨_, rfl⟩
  obtain ⟨n1, hn1⟩ : ∃ q, q = p.ins.length := ⟨_, rfl⟩
  obtain ⟨n2, hn2⟩ : ∃ q, q = p.vrs.length := ⟨_, rfl⟩
  obtain ⟨n3, hn3⟩ : ∃ q, q = p.outs.length := ⟨_, rfl⟩
  obtain ⟨n4, hn4⟩ : ∃ q, q = p.lns.length := ⟨_, rfl⟩
  simp only [← hs0, ← hs4, ← hn1, ← hn2, ← hn3, ← hn4] at LU EQ ⊢
  clear hs0 hs4 hn1 hn2 hn3 hn4 hX
  have q0 : (w.alloc (.cells #[.string s0, .slice a1 n1 c1, .slice a2 n2 c2, .slice a3 n3 c3, .string s4, .slice a4 n4 c4] 27)).cell? ⟨w.heap.size, 0, none⟩ = some (.string s0) := by rw [cell_of_row _ _ 0 _ _ (0, 0) (heap_alloc_new w _)]; rfl
  have q1 : (w.alloc (.cells #[.string s0, .slice a1 n1 c1, .slice a2 n2 c2, .slice a3 n3 c3, .string s4, .slice a4 n4 c4] 27)).cell? ⟨w.heap.size, 1, none⟩ = some (.slice a1 n1 c1) := by rw [cell_of_row _ _ 1 _ _ (0, 0) (heap_alloc_new w _)]; rfl
  have q2 : (w.alloc (.cells #[.string s0, .slice a1 n1 c1, .slice a2 n2 c2, .slice a3 n3 c3, .string s4, .slice a4 n4 c4] 27)).cell? ⟨w.heap.size, 2, none⟩ = some (.slice a2 n2 c2) := by rw [cell_of_row _ _ 2 _ _ (0, 0) (heap_alloc_new w _)]; rfl
  have q3 : (w.alloc (.cells #[.string s0, .slice a1 n1 c1, .slice a2 n2 c2, .slice a3 n3 c3, .string s4, .slice a4 n4 c4] 27)).cell? ⟨w.heap.size, 3, none⟩ = some (.slice a3 n3 c3) := by rw [cell_of_row _ _ 3 _ _ (0, 0) (heap_alloc_new w _)]; rfl
  have q4 : (w.alloc (.cells #[.string s0, .slice a1 n1 c1, .slice a2 n2 c2, .slice a3 n3 c3, .string s4, .slice a4 n4 c4] 27)).cell? ⟨w.heap.size, 4, none⟩ = some (.string s4) := by rw [cell_of_row _ _ 4 _ _ (0, 0) (heap_alloc_new w _)]; rfl
  have q5 : (w.alloc (.cells #[.string s0, .slice a1 n1 c1, .slice a2 n2 c2, .slice a3 n3 c3, .string s4, .slice a4 n4 c4] 27)).cell? ⟨w.heap.size, 5, none⟩ = some (.slice a4 n4 c4) := by rw [cell_of_row _ _ 5 _ _ (0, 0) (heap_alloc_new w _)]; rfl
  have hW0 : w.heap.size < (w.alloc (.cells #[.string s0, .slice a1 n1 c1, .slice a2 n2 c2, .slice a3 n3 c3, .string s4, .slice a4 n4 c4] 27)).heap.size := by rw [World.size_alloc]; exact Nat.lt_succ_self _
  have C0 : Hid (∀ W', Later (w.alloc (.cells #[.string s0, .slice a1 n1 c1, .slice a2 n2 c2, .slice a3 n3 c3, .string s4, .slice a4 n4 c4] 27)) W' → W'.cell? ⟨w.heap.size, 0, none⟩ = some (.string s0) ∧ W'.cell? ⟨w.heap.size, 1, none⟩ = some (.slice a1 n1 c1) ∧ W'.cell? ⟨w.heap.size, 2, none⟩ = some (.slice a2 n2 c2) ∧ W'.cell? ⟨w.heap.size, 3, none⟩ = some (.slice a3 n3 c3) ∧ W'.cell? ⟨w.heap.size, 4, none⟩ = some (.string s4) ∧ W'.cell? ⟨w.heap.size, 5, none⟩ = some (.slice a4 n4 c4)) := Lib.hid (fun W' q => ⟨by rw [q.cell (p := ⟨w.heap.size, 0, none⟩) hW0]; exact q0, by rw [q.cell (p := ⟨w.heap.size, 1, none⟩) hW0]; exact q1, by rw [q.cell (p := ⟨w.heap.size, 2, none⟩) hW0]; exact q2, by rw [q.cell (p := ⟨w.heap.size, 3, none⟩) hW0]; exact q3, by rw [q.cell (p := ⟨w.heap.size, 4, none⟩) hW0]; exact q4, by rw [q.cell (p := ⟨w.heap.size, 5, none⟩) hW0]; exact q5⟩)
  have A0 : Hid (Later w (w.alloc (.cells #[.string s0, .slice a1 n1 c1, .slice a2 n2 c2, .slice a3 n3 c3, .string s4, .slice a4 n4 c4] 27))) := Lib.hid ((Later.refl _).alloc _)
  clear hW0
  cases g
  · have HV : Hid (V = decide (U.length = 0)) := Lib.hid (by rw [HV.out]; rfl)
    go_enter Tryd.func71, Tryd.ntmps71
    go_wp2_with fail
    generalize (w.alloc (.cells #[.string s0, .slice a1 n1 c1, .slice a2 n2 c2, .slice a3 n3 c3, .string s4, .slice a4 n4 c4] 27)) = W0 at C0 A0 q0 q1 q2 q3 q4 q5 ⊢
    refine (LU.out _ A0.out).mono ?_
    rintro e w1 ⟨u, rfl, ho, hb⟩
    have L1 := Lib.hid (show Later W0 w1 from hb)
    obtain ⟨a, c, rfl, hs, _⟩ := ho.sl
    clear hb ho hs q0 q1 q2 q3 q4 q5
    generalize U.length = n at HV ⊢
    go_wp2_with fail
    all_goals
      go_ret
      exact ⟨by rw [HV.out]; exact ret_b (by by_cases h : n = 0 <;> simp [h]), A0.out.trans L1.out⟩
  · have HV : Hid (V = false) := Lib.hid (by rw [HV.out]; rfl)
    go_enter Tryd.func71, Tryd.ntmps71
    go_wp2_with fail
    all_goals
      go_ret
      exact ⟨by rw [HV.out]; rfl, A0.out⟩
def nbW (p : Prg) (S : List (List UInt8)) (H : List UInt8 → Bool) : List (List UInt8) := if seV p = 0 then S.filter H else []
/-- a list of texts of the call's own and a number, handed back -/
def RetX (w : World) (L : List (List UInt8)) (E : Int) (e : Ending) (w' : World) : Prop := ∃ v, e = .returned (.tuple #[v, .int .i64 E]) ∧ OwnT w' w.heap.size v L ∧ Later w w'
theorem seV_wrt (p : Prg) (h : seV p = 0) : wrtB p = true := by
  unfold seV at h
  split at h
  · assumption
  · cases h
theorem ownT_none (w : World) (base : Nat) : OwnT w base (.slice none 0 0) [] := ⟨rfl, .inl ⟨rfl, rfl⟩⟩
theorem i_namesBy_R (base : Nat) (v : Value) (p : Prg) (a : Option Addr) (n cap : Nat) (S : List (List UInt8)) (w : World) (hp : PgC base w v p) (ho : Ops w) (hl : p.lns.length ≤ 1048576) (hs : Sts w a n S) (hn : n ≤ 1048576) :
    Calls Tryd.prog 53 #[v, .slice a n cap, .func (.func 54) #[] #[]] w (RetX w (nbW p S (rmB p.lns)) (seV p)) := by
  have PF := Lib.hid (fun W (h : Later w W) => i_soundError base v p W (hp.later h) (ho.later h) hl)
  have IH := Lib.hid (fun x W (h : Later w W) (hz : seV p = 0) => i_isRemembered v p x W (hp.pgv.later h) (seV_wrt p hz))
  have HV : Hid (nbW p S (rmB p.lns) = if seV p = 0 then S.filter (rmB p.lns) else []) := Lib.hid rfl
  have HF := Lib.hid (fun j h => fil_take S (rmB p.lns) j h)
  have HFL : Hid ((S.take S.length).filter (rmB p.lns) = S.filter (rmB p.lns)) := Lib.hid (by rw [List.take_length])
  have HLE : Hid (∀ j, ((S.take j).filter (rmB p.lns)).length ≤ 1048576) := Lib.hid (fun j => Nat.le_trans (fil_len _ _) (by rw [List.length_take, hs.1]; omega))
  have HS := Lib.hid hs
  have HL := Lib.hid hs.1
  have hn9 := hs.2.1
  have CL := Lib.hid (fun x W h => i_CloneN x W h)
  obtain ⟨a1, c1, a2, c2, a3, c3, a4, c4, rfl, _, _, _, _, _, _⟩ := hp.pgv
  clear hp ho hl hs
  generalize nbW p S (rmB p.lns) = R at HV ⊢
  generalize (rmB p.lns) = H at *
  generalize seV p = E at PF HV IH ⊢
  obtain ⟨s0, hs0⟩ : ∃ q, q = tx p.nm := ⟨_, rfl⟩
  obtain ⟨s4, hs4⟩ : ∃ q, q = tx p.grd := ⟨_, rfl⟩
  obtain ⟨n1, hn1⟩ : ∃ q, q = p.ins.length := ⟨_, rfl⟩
  obtain ⟨n2, hn2⟩ : ∃ q, q = p.vrs.length := ⟨_, rfl⟩
  obtain ⟨n3, hn3⟩ : ∃ q, q = p.outs.length := ⟨_, rfl⟩
  obtain ⟨n4, hn4⟩ : ∃ q, q = p.lns.length := ⟨_, rfl⟩
  simp only [← hs0, ← hs4, ← hn1, ← hn2, ← hn3, ← hn4] at PF IH ⊢
  clear hs0 hs4 hn1 hn2 hn3 hn4
  have q0 : (w.alloc (.cells #[.string s0, .slice a1 n1 c1, .slice a2 n2 c2, .slice a3 n3 c3, .string s4, .slice a4 n4 c4] 27)).cell? ⟨w.heap.size, 0, none⟩ = some (.string s0) := by rw [cell_of_row _ _ 0 _ _ (0, 0) (heap_alloc_new w _)]; rfl
  have q1 : (w.alloc (.cells #[.string s0, .slice a1 n1 c1, .slice a2 n2 c2, .slice a3 n3 c3, .string s4, .slice a4 n4 c4] 27)).cell? ⟨w.heap.size, 1, none⟩ = some (.slice a1 n1 c1) := by rw [cell_of_row _ _ 1 _ _ (0, 0) (heap_alloc_new w _)]; rfl
  have q2 : (w.alloc (.cells #[.string s0, .slice a1 n1 c1, .slice a2 n2 c2, .slice a3 n3 c3, .string s4, .slice a4 n4 c4] 27)).cell? ⟨w.heap.size, 2, none⟩ = some (.slice a2 n2 c2) := by rw [cell_of_row _ _ 2 _ _ (0, 0) (heap_alloc_new w _)]; rfl
  have q3 : (w.alloc (.cells #[.string s0, .slice a1 n1 c1, .slice a2 n2 c2, .slice a3 n3 c3, .string s4, .slice a4 n4 c4] 27)).cell? ⟨w.heap.size, 3, none⟩ = some (.slice a3 n3 c3) := by rw [cell_of_row _ _ 3 _ _ (0, 0) (heap_alloc_new w _)]; rfl
  have q4 : (w.alloc (.cells #[.string s0, .slice a1 n1 c1, .slice a2 n2 c2, .slice a3 n3 c3, .string s4, .slice a4 n4 c4] 27)).cell? ⟨w.heap.size, 4, none⟩ = some (.string s4) := by rw [cell_of_row _ _ 4 _ _ (0, 0) (heap_alloc_new w _)]; rfl
  have q5 : (w.alloc (.cells #[.string s0, .slice a1 n1 c1, .slice a2 n2 c2, .slice a3 n3 c3, .string s4, .slice a4 n4 c4] 27)).cell? ⟨w.heap.size, 5, none⟩ = some (.slice a4 n4 c4) := by rw [cell_of_row _ _ 5 _ _ (0, 0) (heap_alloc_new w _)]; rfl
  have hW0 : w.heap.size < (w.alloc (.cells #[.string s0, .slice a1 n1 c1, .slice a2 n2 c2, .slice a3 n3 c3, .string s4, .slice a4 n4 c4] 27)).heap.size := by rw [World.size_alloc]; exact Nat.lt_succ_self _
  have C0 : Hid (∀ W', Later (w.alloc (.cells #[.string s0, .slice a1 n1 c1, .slice a2 n2 c2, .slice a3 n3 c3, .string s4, .slice a4 n4 c4] 27)) W' → W'.cell? ⟨w.heap.size, 0, none⟩ = some (.string s0) ∧ W'.cell? ⟨w.heap.size, 1, none⟩ = some (.slice a1 n1 c1) ∧ W'.cell? ⟨w.heap.size, 2, none⟩ = some (.slice a2 n2 c2) ∧ W'.cell? ⟨w.heap.size, 3, none⟩ = some (.slice a3 n3 c3) ∧ W'.cell? ⟨w.heap.size, 4, none⟩ = some (.string s4) ∧ W'.cell? ⟨w.heap.size, 5, none⟩ = some (.slice a4 n4 c4)) := Lib.hid (fun W' q => ⟨by rw [q.cell (p := ⟨w.heap.size, 0, none⟩) hW0]; exact q0, by rw [q.cell (p := ⟨w.heap.size, 1, none⟩) hW0]; exact q1, by rw [q.cell (p := ⟨w.heap.size, 2, none⟩) hW0]; exact q2, by rw [q.cell (p := ⟨w.heap.size, 3, none⟩) hW0]; exact q3, by rw [q.cell (p := ⟨w.heap.size, 4, none⟩) hW0]; exact q4, by rw [q.cell (p := ⟨w.heap.size, 5, none⟩) hW0]; exact q5⟩)
  have A0 : Hid (Later w (w.alloc (.cells #[.string s0, .slice a1 n1 c1, .slice a2 n2 c2, .slice a3 n3 c3, .string s4, .slice a4 n4 c4] 27))) := Lib.hid ((Later.refl _).alloc _)
  clear hW0
  by_cases hE : E = 0
  · subst hE
    obtain rfl : R = S.filter H := HV.out
    go_enter Tryd.func53, Tryd.ntmps53
    go_wp2_with fail
    generalize (w.alloc (.cells #[.string s0, .slice a1 n1 c1, .slice a2 n2 c2, .slice a3 n3 c3, .string s4, .slice a4 n4 c4] 27)) = W0 at C0 A0 q0 q1 q2 q3 q4 q5 ⊢
    refine (PF.out _ A0.out).mono ?_
    rintro e w1 ⟨rfl, hb⟩
    have L1 := Lib.hid (show Later W0 w1 from hb)
    clear hb q0 q1 q2 q3 q4 q5
    go_wp2_with fail
    go_loopw [9, 19] (fun s i wr => ∃ k : Nat, k ≤ n ∧ i = .int .i64 k ∧ OwnT wr W0.heap.size s ((S.take k).filter H) ∧ Later W0 wr) (fun _ i _ => n - (intOf i).toNat)
    case atStart => exact ⟨0, by omega, rfl, ownT_none _ _, L1.out⟩
    case round =>
      obtain ⟨k, hk, rfl, ho, hb⟩ := hrel
      have L3 := Lib.hid hb
      have O3 := Lib.hid ho
      obtain ⟨q0, q1, q2, q3, q4, q5⟩ := C0.out _ hb
      clear ho
      by_cases hlt : k < n
      · obtain ⟨b, off, rfl, c0⟩ := (HS.out.later (A0.out.trans hb)).at k hlt
        have hle := HS.out.len k hlt
        have HFK := Lib.hid (HF.out k (by rw [HL.out]; exact hlt))
        have hlk := HLE.out k
        have IK := Lib.hid (fun W (h : Later W0 W) => IH.out (wx S k) W (A0.out.trans h) (by first | rfl | trivial))
        have CK := Lib.hid (fun W => CL.out (wx S k) W hle)
        generalize H (wx S k) = g at IK HFK
        obtain ⟨y, hy⟩ : ∃ y, y = wx S k := ⟨_, rfl⟩
        rw [← hy] at c0 IK CK HFK
        obtain ⟨Y, hY⟩ : ∃ Y, Y = tx y := ⟨_, rfl⟩
        rw [← hY] at c0 IK CK
        have HY := Lib.hid hY
        clear hy hY hb hle
        cases g
        · have HE3 := Lib.hid (show (S.take (k + 1)).filter H = (S.take k).filter H from HFK.out)
          go_wp2_with (go_at_call 54; refine (IK.out _ L3.out).mono ?_; rintro e w4 ⟨rfl, hb⟩; have H4 := Lib.hid (L3.out.trans hb); have O4 := Lib.hid (O3.out.later hb); clear hb)
          go_roundw
          case rel => exact ⟨k + 1, by omega, by go_num, by rw [HE3.out]; exact O4.out, H4.out⟩
          case measure => simp [intOf]; omega
        · have HE3 := Lib.hid (show (S.take (k + 1)).filter H = (S.take k).filter H ++ [y] from HFK.out)
          go_wp2_with (first
            | (go_at_call 54; refine (IK.out _ L3.out).mono ?_; rintro e w4 ⟨rfl, hb⟩; have H4 := Lib.hid (L3.out.trans hb); have O4 := Lib.hid (O3.out.later hb); clear hb)
            | (go_at_call 101; refine (CK.out _).mono ?_; rintro e w5 ⟨rfl, hb⟩; have H5 := Lib.hid (H4.out.trans hb); have O5 := Lib.hid (O4.out.later hb); clear hb)
            | (at_builtin; go_must (rw [HY.out]; refine app1T rfl _ _ rfl W0.heap.size _ _ _ ((S.take k).filter H) y O5.out rfl (by first | rfl | (simp only [World.heap_drewN, World.size_alloc]; rfl)) (by omega) H5.out.size ?_; intro v6 w6 ho hgr)))
          have O6 := Lib.hid ho
          rw [← HE3.out] at O6
          have B6 : Hid (Later W0 w6) := Lib.hid (Below.grown H5.out hgr H5.out.size (fun j hj => (O5.out.lt j hj).1))
          clear ho hgr
          go_roundw
          case rel => exact ⟨k + 1, by omega, by go_num, O6.out, B6.out⟩
          case measure => simp [intOf]; omega
      · obtain rfl : k = n := by omega
        have HD : Hid ((S.take k).filter H = S.filter H) := Lib.hid (by have := HFL.out; rw [HL.out] at this; exact this)
        clear hb
        go_wp2_with fail
        refine bodyPost_ret (v := .tuple #[_, .int .i64 0]) (by simp [results, Tryd.results53, go_sem, *]; rfl) rfl ⟨_, rfl, (by rw [← HD.out]; exact ownT_monoN O3.out A0.out.size), A0.out.trans L3.out⟩
  · have hne : (E == 0) = false := by simpa using hE
    have hne2 : (E != 0) = true := by simpa using hE
    obtain rfl : R = [] := by have := HV.out; rw [if_neg hE] at this; exact this
    clear hE
    go_enter Tryd.func53, Tryd.ntmps53
    go_wp2_with fail
    generalize (w.alloc (.cells #[.string s0, .slice a1 n1 c1, .slice a2 n2 c2, .slice a3 n3 c3, .string s4, .slice a4 n4 c4] 27)) = W0 at C0 A0 q0 q1 q2 q3 q4 q5 ⊢
    refine (PF.out _ A0.out).mono ?_
    rintro e w1 ⟨rfl, hb⟩
    have B1 := Lib.hid (Later.trans A0.out hb)
    clear hb q0 q1 q2 q3 q4 q5
    go_wp2_with fail
    all_goals
      refine bodyPost_ret (v := .tuple #[.slice none 0 0, .int .i64 E]) (by simp [results, Tryd.results53, go_sem, *]) rfl ⟨_, rfl, ownT_none _ _, B1.out⟩
theorem i_namesBy_U (base : Nat) (v : Value) (p : Prg) (a : Option Addr) (n cap : Nat) (S : List (List UInt8)) (w : World) (hp : PgC base w v p) (ho : Ops w) (hl : p.lns.length ≤ 1048576) (hs : Sts w a n S) (hn : n ≤ 1048576) :
    Calls Tryd.prog 53 #[v, .slice a n cap, .func (.func 71) #[] #[]] w (RetX w (nbW p S (unB p)) (seV p)) := by
  have PF := Lib.hid (fun W (h : Later w W) => i_soundError base v p W (hp.later h) (ho.later h) hl)
  have IH := Lib.hid (fun x W (h : Later w W) (hz : seV p = 0) => i_isUnused v p x W (hp.pgv.later h) (seV_wrt p hz))
  have HV : Hid (nbW p S (unB p) = if seV p = 0 then S.filter (unB p) else []) := Lib.hid rfl
  have HF := Lib.hid (fun j h => fil_take S (unB p) j h)
  have HFL : Hid ((S.take S.length).filter (unB p) = S.filter (unB p)) := Lib.hid (by rw [List.take_length])
  have HLE : Hid (∀ j, ((S.take j).filter (unB p)).length ≤ 1048576) := Lib.hid (fun j => Nat.le_trans (fil_len _ _) (by rw [List.length_take, hs.1]; omega))
  have HS := Lib.hid hs
  have HL := Lib.hid hs.1
  have hn9 := hs.2.1
  have CL := Lib.hid (fun x W h => i_CloneN x W h)
  obtain ⟨a1, c1, a2, c2, a3, c3, a4, c4, rfl, _, _, _, _, _, _⟩ := hp.pgv
  clear hp ho hl hs
  generalize nbW p S (unB p) = R at HV ⊢
  generalize (unB p) = H at *
  generalize seV p = E at PF HV IH ⊢
  obtain ⟨s0, hs0⟩ : ∃ q, q = tx p.nm := ⟨_, rfl⟩
  obtain ⟨s4, hs4⟩ : ∃ q, q = tx p.grd := ⟨_, rfl⟩
  obtain ⟨n1, hn1⟩ : ∃ q, q = p.ins.length := ⟨_, rfl⟩
  obtain ⟨n2, hn2⟩ : ∃ q, q = p.vrs.length := ⟨_, rfl⟩
  obtain ⟨n3, hn3⟩ : ∃ q, q = p.outs.length := ⟨_, rfl⟩
  obtain ⟨n4, hn4⟩ : ∃ q, q = p.lns.length := ⟨_, rfl⟩
  simp only [← hs0, ← hs4, ← hn1, ← hn2, ← hn3, ← hn4] at PF IH ⊢
  clear hs0 hs4 hn1 hn2 hn3 hn4
  have q0 : (w.alloc (.cells #[.string s0, .slice a1 n1 c1, .slice a2 n2 c2, .slice a3 n3 c3, .string s4, .slice a4 n4 c4] 27)).cell? ⟨w.heap.size, 0, none⟩ = some (.string s0) := by rw [cell_of_row _ _ 0 _ _ (0, 0) (heap_alloc_new w _)]; rfl
  have q1 : (w.alloc (.cells #[.string s0, .slice a1 n1 c1, .slice a2 n2 c2, .slice a3 n3 c3, .string s4, .slice a4 n4 c4] 27)).cell? ⟨w.heap.size, 1, none⟩ = some (.slice a1 n1 c1) := by rw [cell_of_row _ _ 1 _ _ (0, 0) (heap_alloc_new w _)]; rfl
  have q2 : (w.alloc (.cells #[.string s0, .slice a1 n1 c1, .slice a2 n2 c2, .slice a3 n3 c3, .string s4, .slice a4 n4 c4] 27)).cell? ⟨w.heap.size, 2, none⟩ = some (.slice a2 n2 c2) := by rw [cell_of_row _ _ 2 _ _ (0, 0) (heap_alloc_new w _)]; rfl
  have q3 : (w.alloc (.cells #[.string s0, .slice a1 n1 c1, .slice a2 n2 c2, .slice a3 n3 c3, .string s4, .slice a4 n4 c4] 27)).cell? ⟨w.heap.size, 3, none⟩ = some (.slice a3 n3 c3) := by rw [cell_of_row _ _ 3 _ _ (0, 0) (heap_alloc_new w _)]; rfl
  have q4 : (w.alloc (.cells #[.string s0, .slice a1 n1 c1, .slice a2 n2 c2, .slice a3 n3 c3, .string s4, .slice a4 n4 c4] 27)).cell? ⟨w.heap.size, 4, none⟩ = some (.string s4) := by rw [cell_of_row _ _ 4 _ _ (0, 0) (heap_alloc_new w _)]; rfl
  have q5 : (w.alloc (.cells #[.string s0, .slice a1 n1 c1, .slice a2 n2 c2, .slice a3 n3 c3, .string s4, .slice a4 n4 c4] 27)).cell? ⟨w.heap.size, 5, none⟩ = some (.slice a4 n4 c4) := by rw [cell_of_row _ _ 5 _ _ (0, 0) (heap_alloc_new w _)]; rfl
  have hW0 : w.heap.size < (w.alloc (.cells #[.string s0, .slice a1 n1 c1, .slice a2 n2 c2, .slice a3 n3 c3, .string s4, .slice a4 n4 c4] 27)).heap.size := by rw [World.size_alloc]; exact Nat.lt_succ_self _
  have C0 : Hid (∀ W', Later (w.alloc (.cells #[.string s0, .slice a1 n1 c1, .slice a2 n2 c2, .slice a3 n3 c3, .string s4, .slice a4 n4 c4] 27)) W' → W'.cell? ⟨w.heap.size, 0, none⟩ = some (.string s0) ∧ W'.cell? ⟨w.heap.size, 1, none⟩ = some (.slice a1 n1 c1) ∧ W'.cell? ⟨w.heap.size, 2, none⟩ = some (.slice a2 n2 c2) ∧ W'.cell? ⟨w.heap.size, 3, none⟩ = some (.slice a3 n3 c3) ∧ W'.cell? ⟨w.heap.size, 4, none⟩ = some (.string s4) ∧ W'.cell? ⟨w.heap.size, 5, none⟩ = some (.slice a4 n4 c4)) := Lib.hid (fun W' q => ⟨by rw [q.cell (p := ⟨w.heap.size, 0, none⟩) hW0]; exact q0, by rw [q.cell (p := ⟨w.heap.size, 1, none⟩) hW0]; exact q1, by rw [q.cell (p := ⟨w.heap.size, 2, none⟩) hW0]; exact q2, by rw [q.cell (p := ⟨w.heap.size, 3, none⟩) hW0]; exact q3, by rw [q.cell (p := ⟨w.heap.size, 4, none⟩) hW0]; exact q4, by rw [q.cell (p := ⟨w.heap.size, 5, none⟩) hW0]; exact q5⟩)
  have A0 : Hid (Later w (w.alloc (.cells #[.string s0, .slice a1 n1 c1, .slice a2 n2 c2, .slice a3 n3 c3, .string s4, .slice a4 n4 c4] 27))) := Lib.hid ((Later.refl _).alloc _)
  clear hW0
  by_cases hE : E = 0
  · subst hE
    obtain rfl : R = S.filter H := HV.out
    go_enter Tryd.func53, Tryd.ntmps53
    go_wp2_with fail
    generalize (w.alloc (.cells #[.string s0, .slice a1 n1 c1, .slice a2 n2 c2, .slice a3 n3 c3, .string s4, .slice a4 n4 c4] 27)) = W0 at C0 A0 q0 q1 q2 q3 q4 q5 ⊢
    refine (PF.out _ A0.out).mono ?_
    rintro e w1 ⟨rfl, hb⟩
    have L1 := Lib.hid (show Later W0 w1 from hb)
    clear hb q0 q1 q2 q3 q4 q5
    go_wp2_with fail
    go_loopw [9, 19] (fun s i wr => ∃ k : Nat, k ≤ n ∧ i = .int .i64 k ∧ OwnT wr W0.heap.size s ((S.take k).filter H) ∧ Later W0 wr) (fun _ i _ => n - (intOf i).toNat)
    case atStart => exact ⟨0, by omega, rfl, ownT_none _ _, L1.out⟩
    case round =>
      obtain ⟨k, hk, rfl, ho, hb⟩ := hrel
      have L3 := Lib.hid hb
      have O3 := Lib.hid ho
      obtain ⟨q0, q1, q2, q3, q4, q5⟩ := C0.out _ hb
      clear ho
      by_cases hlt : k < n
      · obtain ⟨b, off, rfl, c0⟩ := (HS.out.later (A0.out.trans hb)).at k hlt
        have hle := HS.out.len k hlt
        have HFK := Lib.hid (HF.out k (by rw [HL.out]; exact hlt))
        have hlk := HLE.out k
        have IK := Lib.hid (fun W (h : Later W0 W) => IH.out (wx S k) W (A0.out.trans h) (by first | rfl | trivial))
        have CK := Lib.hid (fun W => CL.out (wx S k) W hle)
        generalize H (wx S k) = g at IK HFK
        obtain ⟨y, hy⟩ : ∃ y, y = wx S k := ⟨_, rfl⟩
        rw [← hy] at c0 IK CK HFK
        obtain ⟨Y, hY⟩ : ∃ Y, Y = tx y := ⟨_, rfl⟩
        rw [← hY] at c0 IK CK
        have HY := Lib.hid hY
        clear hy hY hb hle
        cases g
        · have HE3 := Lib.hid (show (S.take (k + 1)).filter H = (S.take k).filter H from HFK.out)
          go_wp2_with (go_at_call 71; refine (IK.out _ L3.out).mono ?_; rintro e w4 ⟨rfl, hb⟩; have H4 := Lib.hid (L3.out.trans hb); have O4 := Lib.hid (O3.out.later hb); clear hb)
          go_roundw
          case rel => exact ⟨k + 1, by omega, by go_num, by rw [HE3.out]; exact O4.out, H4.out⟩
          case measure => simp [intOf]; omega
        · have HE3 := Lib.hid (show (S.take (k + 1)).filter H = (S.take k).filter H ++ [y] from HFK.out)
          go_wp2_with (first
            | (go_at_call 71; refine (IK.out _ L3.out).mono ?_; rintro e w4 ⟨rfl, hb⟩; have H4 := Lib.hid (L3.out.trans hb); have O4 := Lib.hid (O3.out.later hb); clear hb)
            | (go_at_call 101; refine (CK.out _).mono ?_; rintro e w5 ⟨rfl, hb⟩; have H5 := Lib.hid (H4.out.trans hb); have O5 := Lib.hid (O4.out.later hb); clear hb)
            | (at_builtin; go_must (rw [HY.out]; refine app1T rfl _ _ rfl W0.heap.size _ _ _ ((S.take k).filter H) y O5.out rfl (by first | rfl | (simp only [World.heap_drewN, World.size_alloc]; rfl)) (by omega) H5.out.size ?_; intro v6 w6 ho hgr)))
          have O6 := Lib.hid ho
          rw [← HE3.out] at O6
          have B6 : Hid (Later W0 w6) := Lib.hid (Below.grown H5.out hgr H5.out.size (fun j hj => (O5.out.lt j hj).1))
          clear ho hgr
          go_roundw
          case rel => exact ⟨k + 1, by omega, by go_num, O6.out, B6.out⟩
          case measure => simp [intOf]; omega
      · obtain rfl : k = n := by omega
        have HD : Hid ((S.take k).filter H = S.filter H) := Lib.hid (by have := HFL.out; rw [HL.out] at this; exact this)
        clear hb
        go_wp2_with fail
        refine bodyPost_ret (v := .tuple #[_, .int .i64 0]) (by simp [results, Tryd.results53, go_sem, *]; rfl) rfl ⟨_, rfl, (by rw [← HD.out]; exact ownT_monoN O3.out A0.out.size), A0.out.trans L3.out⟩
  · have hne : (E == 0) = false := by simpa using hE
    have hne2 : (E != 0) = true := by simpa using hE
    obtain rfl : R = [] := by have := HV.out; rw [if_neg hE] at this; exact this
    clear hE
    go_enter Tryd.func53, Tryd.ntmps53
    go_wp2_with fail
    generalize (w.alloc (.cells #[.string s0, .slice a1 n1 c1, .slice a2 n2 c2, .slice a3 n3 c3, .string s4, .slice a4 n4 c4] 27)) = W0 at C0 A0 q0 q1 q2 q3 q4 q5 ⊢
    refine (PF.out _ A0.out).mono ?_
    rintro e w1 ⟨rfl, hb⟩
    have B1 := Lib.hid (Later.trans A0.out hb)
    clear hb q0 q1 q2 q3 q4 q5
    go_wp2_with fail
    all_goals
      refine bodyPost_ret (v := .tuple #[.slice none 0 0, .int .i64 E]) (by simp [results, Tryd.results53, go_sem, *]) rfl ⟨_, rfl, ownT_none _ _, B1.out⟩
end Go.Proofs.YtokipobjpinhmaaDoor
namespace Go.Proofs.YtokipobjpinhmaaDoor
open Go.RowKit Go.Shelf
set_option maxHeartbeats 4000000
set_option maxRecDepth 100000
set_option linter.unusedVariables false
set_option linter.unusedSimpArgs false
theorem i_GrowM2 (n : Nat) (hn : n ≤ 4000000) (w : World) : Calls Tryd.prog 106 #[.slice none 0 0, .int .i64 n] w fun e w' => ∃ v, e = .returned v ∧ OwnT w' w.heap.size v [] ∧ Later w w' := by
  by_cases h0 : n = 0
  · subst h0
    refine (Any8.slices_Grow_room growN none 0 0 0 w (by omega) (by omega) (by omega) (by omega)).mono ?_
    rintro e w' ⟨rfl, rfl⟩
    exact ⟨_, rfl, ⟨rfl, .inl ⟨rfl, rfl⟩⟩, Later.refl _⟩
  obtain ⟨i0, hi, hz0, hz1, hz2⟩ := info_parts info_str
  refine (Any8.slices_Grow_grow growN i0 (.string ⟨#[]⟩) hi hz0 (by rw [hz1]; omega) none 0 0 n [] w (Nat.le_refl _) (by omega) (by rw [hz2]; omega) (by omega) (by simp) (fun _ => rfl) (fun a h => by cases h)).mono ?_
  rintro e w' ⟨rfl, rfl⟩
  refine ⟨_, rfl, ⟨rfl, .inr ⟨w.heap.size, _, _, rfl, Nat.le_refl _, by first | exact heap_alloc_new w.drew _ | exact heap_alloc_new _ _, Nat.zero_le _, ?_, ?_, by simp⟩⟩, by first | exact Later.drew_alloc | exact (Later.refl _).drew.alloc _ | exact ((Later.refl _).drew).alloc⟩
  · exact Go.grownCap_le_maxLen _ _ _ _ (by unfold maxLen; omega)
  · have := Go.grownCap_ge w (0 + n) 0 (growN_ren.t 25)
    have e : (Value.string ⟨#[]⟩).cells.size = 1 := rfl
    simp only [Nat.zero_add] at this
    simp [Builtin.zeroCells, e]
    omega
theorem i_ConcatN2 (a : Option Addr) (m cap : Nat) (Q : List (List (List UInt8))) (w : World) (hq : Nmx w a m Q) (hm : m ≤ 10) (hl : ∀ k, ((Q.take k).flatten).length ≤ 4000000) : Calls Tryd.prog 70 #[.slice a m cap] w fun e w' => ∃ v, e = .returned v ∧ OwnT w' w.heap.size v Q.flatten ∧ Later w w' := by
  have HQ := Lib.hid hq
  have HN := Lib.hid hq.1
  have HL := Lib.hid hl
  have HG := Lib.hid (fun n W h2 => i_GrowM2 n h2 W)
  have HF : Hid ((Q.take m).flatten = Q.flatten) := Lib.hid (by rw [List.take_of_length_le (by rw [HN.out]; exact Nat.le_refl _)])
  clear hq hl
  go_enter Tryd.func70, Tryd.ntmps70
  go_wp2
  go_loopw [3, 11] (fun s i wr => ∃ k : Nat, k ≤ m ∧ i = .int .i64 k ∧ s = .int .i64 ((Q.take k).flatten.length : Nat) ∧ Later w wr) (fun _ i _ => m - (intOf i).toNat)
  case atStart => exact ⟨0, by omega, rfl, rfl, Later.refl _⟩
  case round =>
    obtain ⟨k, hk, rfl, rfl, hb⟩ := hrel
    have B3 := Lib.hid hb
    by_cases hlt : k < m
    · obtain ⟨b, off, tb, o2, n, tc, rfl, hc, hs⟩ := (HQ.out.later hb).2 k hlt
      have e1 : (Q.take (k + 1)).flatten.length = (Q.take k).flatten.length + n := by rw [qn_take Q k (by rw [HN.out]; exact hlt), List.length_append, hs.1]
      have h1 := HL.out k
      have h2 := HL.out (k + 1)
      obtain ⟨B, hB⟩ : ∃ B, B = (Q.take (k + 1)).flatten.length := ⟨_, rfl⟩
      rw [← hB] at e1 h2
      have HB := Lib.hid hB
      clear hB hb hs
      generalize (Q.take k).flatten.length = A at e1 h1 ⊢
      have ew : IntKind.i64.wrap ((A : Int) + (n : Int)) = (B : Int) := by rw [show ((A : Int) + (n : Int)) = (B : Int) by omega]; exact IntWalk.i64_in _ (by omega)
      have e2 : decide ((B : Int) < 0) = false := decide_eq_false (by omega)
      go_wp2_with fail
      go_roundw
      case rel => exact ⟨k + 1, by omega, by go_num, by rw [← HB.out]; first | rfl | (congr 1; omega), (by repeat (first | (with_reducible exact Later.refl _) | (with_reducible exact Hid.out (by assumption)) | (with_reducible refine Later.alloc ?_ _) | (with_reducible refine Later.setCell ?_ (by simp; omega) _) | (with_reducible refine Later.setCell ?_ (by simp) _) | (with_reducible refine Later.drewN ?_ _) | (with_reducible refine Later.drew ?_) | (with_reducible refine Later.trans ?_ (Hid.out (by assumption)))))⟩
      case measure => simp [intOf]; omega
    · obtain rfl : k = m := by omega
      have h1 := HL.out k
      obtain ⟨N0, hN0⟩ : ∃ A, A = (Q.take k).flatten.length := ⟨_, rfl⟩
      rw [← hN0] at h1 ⊢
      clear hN0 hb hlt
      go_wp2_with fail
      refine (HG.out N0 _ (by omega)).mono ?_
      rintro e w1 ⟨v, rfl, ho, hb⟩
      have B1 := Lib.hid (Later.trans B3.out hb)
      have O1 : Hid (OwnT w1 w.heap.size v []) := Lib.hid (ownT_monoN ho B3.out.size)
      clear ho hb
      go_wp2_with fail
      go_loopw [6, 27] (fun v i wr => ∃ k2 : Nat, k2 ≤ k ∧ i = .int .i64 k2 ∧ OwnT wr w.heap.size v (Q.take k2).flatten ∧ Later w wr) (fun _ i _ => k - (intOf i).toNat)
      case atStart => exact ⟨0, by omega, rfl, O1.out, B1.out⟩
      case round =>
        obtain ⟨k2, hk2, rfl, ho, hb⟩ := hrel
        have B4 := Lib.hid hb
        have O4 := Lib.hid ho
        have hl4 := HL.out k2
        by_cases hlt : k2 < k
        · obtain ⟨b, off, tb, o2, n, tc, rfl, hc, hs⟩ := (HQ.out.later hb).2 k2 hlt
          have e1 := qn_take Q k2 (by rw [HN.out]; exact hlt)
          have HE := Lib.hid e1
          have hn : n ≤ 4000000 := by have := HL.out (k2 + 1); rw [e1, List.length_append, hs.1] at this; omega
          have HS := Lib.hid hs
          clear e1 hs ho hb
          go_wp2_with (at_builtin; go_must (refine appTm rfl _ _ rfl w.heap.size _ _ _ (qn Q k2) tb o2 n tc O4.out HS.out rfl rfl (by omega) (by omega) B4.out.size ?_; intro v' w7 ho hgr))
          have O7 := Lib.hid ho
          rw [← HE.out] at O7
          have B7 : Hid (Later w w7) := Lib.hid (Below.grown B4.out hgr B4.out.size (fun j hj => (O4.out.lt j hj).1))
          clear ho hgr
          go_roundw
          case rel => exact ⟨k2 + 1, by omega, by go_num, O7.out, B7.out⟩
          case measure => simp [intOf]; omega
        · obtain rfl : k2 = k := by omega
          clear ho hb
          go_wp2_with fail
          go_ret
          exact ⟨_, rfl, by rw [← HF.out]; exact O4.out, B4.out⟩
theorem concat2G (b0 b1 n0 n1 c0 c1 : Nat) (W0 W1 : List (List UInt8)) (w W : World) (h : Nat) (T : TypeId) (hl : Later w W) (hh : W.heap.size = h) (h0 : Sts w (some ⟨b0, 0, none⟩) n0 W0) (h1 : Sts w (some ⟨b1, 0, none⟩) n1 W1) (z0 : n0 ≤ 1048576) (z1 : n1 ≤ 1048576) :
    Calls Tryd.prog 70 #[.slice (some ⟨h, 0, none⟩) 2 2] (W.alloc (.cells #[.slice (some ⟨b0, 0, none⟩) n0 c0, .slice (some ⟨b1, 0, none⟩) n1 c1] T)) (RetTs W (W0 ++ W1)) := by
  subst hh
  have e0 := h0.1; have e1 := h1.1
  refine (i_ConcatN2 _ 2 2 [W0, W1] _ (nmx_two W T b0 b1 n0 n1 c0 c1 W0 W1 (h0.later hl) (h1.later hl)) (by omega) (take_le2 W0 W1 4000000 (by omega))).mono ?_
  rintro e w' ⟨u, rfl, ho, hb⟩
  have ef : [W0, W1].flatten = W0 ++ W1 := by simp
  rw [ef] at ho
  exact ⟨u, rfl, ownT_monoN ho (Later.size ((Later.refl W).alloc _)), Later.trans ((Later.refl _).alloc _) hb⟩
theorem i_namesBy_E (base : Nat) (v : Value) (p : Prg) (a : Option Addr) (n cap : Nat) (w : World) (hp : PgC base w v p) (ho : Ops w) (hl : p.lns.length ≤ 1048576) (hE : seV p ≠ 0) :
    Calls Tryd.prog 53 #[v, .slice a n cap, .func (.func 71) #[] #[]] w (RetX w [] (seV p)) := by
  have PF := Lib.hid (fun W (h : Later w W) => i_soundError base v p W (hp.later h) (ho.later h) hl)
  obtain ⟨a1, c1, a2, c2, a3, c3, a4, c4, rfl, _, _, _, _, _, _⟩ := hp.pgv
  clear hp ho hl
  generalize seV p = E at PF hE ⊢
  obtain ⟨s0, hs0⟩ : ∃ q, q = tx p.nm := ⟨_, rfl⟩
  obtain ⟨s4, hs4⟩ : ∃ q, q = tx p.grd := ⟨_, rfl⟩
  obtain ⟨n1, hn1⟩ : ∃ q, q = p.ins.length := ⟨_, rfl⟩
  obtain ⟨n2, hn2⟩ : ∃ q, q = p.vrs.length := ⟨_, rfl⟩
  obtain ⟨n3, hn3⟩ : ∃ q, q = p.outs.length := ⟨_, rfl⟩
  obtain ⟨n4, hn4⟩ : ∃ q, q = p.lns.length := ⟨_, rfl⟩
  simp only [← hs0, ← hs4, ← hn1, ← hn2, ← hn3, ← hn4] at PF ⊢
  clear hs0 hs4 hn1 hn2 hn3 hn4
  have q0 : (w.alloc (.cells #[.string s0, .slice a1 n1 c1, .slice a2 n2 c2, .slice a3 n3 c3, .string s4, .slice a4 n4 c4] 27)).cell? ⟨w.heap.size, 0, none⟩ = some (.string s0) := by rw [cell_of_row _ _ 0 _ _ (0, 0) (heap_alloc_new w _)]; rfl
  have q1 : (w.alloc (.cells #[.string s0, .slice a1 n1 c1, .slice a2 n2 c2, .slice a3 n3 c3, .string s4, .slice a4 n4 c4] 27)).cell? ⟨w.heap.size, 1, none⟩ = some (.slice a1 n1 c1) := by rw [cell_of_row _ _ 1 _ _ (0, 0) (heap_alloc_new w _)]; rfl
  have q2 : (w.alloc (.cells #[.string s0, .slice a1 n1 c1, .slice a2 n2 c2, .slice a3 n3 c3, .string s4, .slice a4 n4 c4] 27)).cell? ⟨w.heap.size, 2, none⟩ = some (.slice a2 n2 c2) := by rw [cell_of_row _ _ 2 _ _ (0, 0) (heap_alloc_new w _)]; rfl
  have q3 : (w.alloc (.cells #[.string s0, .slice a1 n1 c1, .slice a2 n2 c2, .slice a3 n3 c3, .string s4, .slice a4 n4 c4] 27)).cell? ⟨w.heap.size, 3, none⟩ = some (.slice a3 n3 c3) := by rw [cell_of_row _ _ 3 _ _ (0, 0) (heap_alloc_new w _)]; rfl
  have q4 : (w.alloc (.cells #[.string s0, .slice a1 n1 c1, .slice a2 n2 c2, .slice a3 n3 c3, .string s4, .slice a4 n4 c4] 27)).cell? ⟨w.heap.size, 4, none⟩ = some (.string s4) := by rw [cell_of_row _ _ 4 _ _ (0, 0) (heap_alloc_new w _)]; rfl
  have q5 : (w.alloc (.cells #[.string s0, .slice a1 n1 c1, .slice a2 n2 c2, .slice a3 n3 c3, .string s4, .slice a4 n4 c4] 27)).cell? ⟨w.heap.size, 5, none⟩ = some (.slice a4 n4 c4) := by rw [cell_of_row _ _ 5 _ _ (0, 0) (heap_alloc_new w _)]; rfl
  have hW0 : w.heap.size < (w.alloc (.cells #[.string s0, .slice a1 n1 c1, .slice a2 n2 c2, .slice a3 n3 c3, .string s4, .slice a4 n4 c4] 27)).heap.size := by rw [World.size_alloc]; exact Nat.lt_succ_self _
  have C0 : Hid (∀ W', Later (w.alloc (.cells #[.string s0, .slice a1 n1 c1, .slice a2 n2 c2, .slice a3 n3 c3, .string s4, .slice a4 n4 c4] 27)) W' → W'.cell? ⟨w.heap.size, 0, none⟩ = some (.string s0) ∧ W'.cell? ⟨w.heap.size, 1, none⟩ = some (.slice a1 n1 c1) ∧ W'.cell? ⟨w.heap.size, 2, none⟩ = some (.slice a2 n2 c2) ∧ W'.cell? ⟨w.heap.size, 3, none⟩ = some (.slice a3 n3 c3) ∧ W'.cell? ⟨w.heap.size, 4, none⟩ = some (.string s4) ∧ W'.cell? ⟨w.heap.size, 5, none⟩ = some (.slice a4 n4 c4)) := Lib.hid (fun W' q => ⟨by rw [q.cell (p := ⟨w.heap.size, 0, none⟩) hW0]; exact q0, by rw [q.cell (p := ⟨w.heap.size, 1, none⟩) hW0]; exact q1, by rw [q.cell (p := ⟨w.heap.size, 2, none⟩) hW0]; exact q2, by rw [q.cell (p := ⟨w.heap.size, 3, none⟩) hW0]; exact q3, by rw [q.cell (p := ⟨w.heap.size, 4, none⟩) hW0]; exact q4, by rw [q.cell (p := ⟨w.heap.size, 5, none⟩) hW0]; exact q5⟩)
  have A0 : Hid (Later w (w.alloc (.cells #[.string s0, .slice a1 n1 c1, .slice a2 n2 c2, .slice a3 n3 c3, .string s4, .slice a4 n4 c4] 27))) := Lib.hid ((Later.refl _).alloc _)
  clear hW0
  have hne : (E == 0) = false := by simpa using hE
  have hne2 : (E != 0) = true := by simpa using hE
  clear hE
  go_enter Tryd.func53, Tryd.ntmps53
  go_wp2_with fail
  generalize (w.alloc (.cells #[.string s0, .slice a1 n1 c1, .slice a2 n2 c2, .slice a3 n3 c3, .string s4, .slice a4 n4 c4] 27)) = W0 at C0 A0 q0 q1 q2 q3 q4 q5 ⊢
  refine (PF.out _ A0.out).mono ?_
  rintro e w1 ⟨rfl, hb⟩
  have B1 := Lib.hid (Later.trans A0.out hb)
  clear hb q0 q1 q2 q3 q4 q5
  go_wp2_with fail
  all_goals
    refine bodyPost_ret (v := .tuple #[.slice none 0 0, .int .i64 E]) (by simp [results, Tryd.results53, go_sem, *]) rfl ⟨_, rfl, ownT_none _ _, B1.out⟩
def unW (p : Prg) : List (List UInt8) := nbW p (p.ins ++ p.vrs) (unB p)
theorem concat2D (b0 b1 n0 n1 c0 c1 : Nat) (W0 W1 : List (List UInt8)) (w W W' : World) (T : TypeId) (hl : Later w W) (hl2 : Later (W.alloc (.cells #[.slice (some ⟨b0, 0, none⟩) n0 c0, .slice (some ⟨b1, 0, none⟩) n1 c1] T)) W') (h0 : Sts w (some ⟨b0, 0, none⟩) n0 W0) (h1 : Sts w (some ⟨b1, 0, none⟩) n1 W1) (z0 : n0 ≤ 1048576) (z1 : n1 ≤ 1048576) :
    Calls Tryd.prog 70 #[.slice (some ⟨W.heap.size, 0, none⟩) 2 2] W' (RetTs W' (W0 ++ W1)) := by
  have e0 := h0.1; have e1 := h1.1
  refine (i_ConcatN2 _ 2 2 [W0, W1] _ ((nmx_two W T b0 b1 n0 n1 c0 c1 W0 W1 (h0.later hl) (h1.later hl)).later hl2) (by omega) (take_le2 W0 W1 4000000 (by omega))).mono ?_
  rintro e w' ⟨u, rfl, ho, hb⟩
  have ef : [W0, W1].flatten = W0 ++ W1 := by simp
  rw [ef] at ho
  exact ⟨u, rfl, ho, hb⟩
theorem i_UnusedNames (base : Nat) (v : Value) (p : Prg) (w : World) (hp : PgC base w v p) (ho : Ops w) (hl : p.lns.length ≤ 1048576) (hn1 : p.ins.length ≤ 1048576) (hn2 : p.vrs.length ≤ 1048576) :
    Calls Tryd.prog 37 #[v] w (RetX w (unW p) (seV p)) := by
  have NB : Hid (∀ a n c W W2, Later w W → Later W W2 → Sts W2 a n (p.ins ++ p.vrs) → Calls Tryd.prog 53 #[v, .slice a n c, .func (.func 71) #[] #[]] W2 (RetX W2 (unW p) (seV p))) := Lib.hid (fun a n c W W2 h h2 hs => by
    by_cases hE : seV p = 0
    · have wb := wb_of p (seV_wrt p hE)
      refine i_namesBy_U base v p a n c (p.ins ++ p.vrs) W2 (hp.later (h.trans h2)) (ho.later (h.trans h2)) hl hs ?_
      rw [← hs.1, List.length_append]
      have := wb.2.2.1; have := wb.2.2.2.1
      omega
    · have e : unW p = [] := by unfold unW nbW; rw [if_neg hE]
      rw [e]
      exact i_namesBy_E base v p a n c W2 (hp.later (h.trans h2)) (ho.later (h.trans h2)) hl hE)
  have SHO : Hid (∀ x ∈ p.ins ++ p.vrs, x.length ≤ 1048576) := Lib.hid (mem_app2 hp.pgv.shorts.1 hp.pgv.shorts.2.1)
  obtain ⟨g1, g2, g3, g4, rfl, _, ⟨h1, _⟩, ⟨h2, _⟩, ⟨h3, _⟩, _, _, _⟩ := hp
  have HC := Lib.hid (fun W W' T hl hl2 => concat2D g1 g2 p.ins.length p.vrs.length p.ins.length p.vrs.length p.ins p.vrs w W W' T hl hl2 h1 h2 hn1 hn2)
  clear h1 h2 h3 ho hl hn1 hn2
  generalize unW p = R at NB ⊢
  generalize seV p = E at NB ⊢
  generalize p.ins ++ p.vrs = S at NB HC SHO
  obtain ⟨s0, hs0⟩ : ∃ q, q = tx p.nm := ⟨_, rfl⟩
  obtain ⟨s4, hs4⟩ : ∃ q, q = tx p.grd := ⟨_, rfl⟩
  obtain ⟨n1, hn1⟩ : ∃ q, q = p.ins.length := ⟨_, rfl⟩
  obtain ⟨n2, hn2⟩ : ∃ q, q = p.vrs.length := ⟨_, rfl⟩
  obtain ⟨n3, hn3⟩ : ∃ q, q = p.outs.length := ⟨_, rfl⟩
  obtain ⟨n4, hn4⟩ : ∃ q, q = p.lns.length := ⟨_, rfl⟩
  simp only [← hs0, ← hs4, ← hn1, ← hn2, ← hn3, ← hn4] at NB HC ⊢
  clear hs0 hs4 hn1 hn2 hn3 hn4
  have q0 : (w.alloc (.cells #[.string s0, .slice (some ⟨g1, 0, none⟩) n1 n1, .slice (some ⟨g2, 0, none⟩) n2 n2, .slice (some ⟨g3, 0, none⟩) n3 n3, .string s4, .slice (some ⟨g4, 0, none⟩) n4 n4] 27)).cell? ⟨w.heap.size, 0, none⟩ = some (.string s0) := by rw [cell_of_row _ _ 0 _ _ (0, 0) (heap_alloc_new w _)]; rfl
  have q1 : (w.alloc (.cells #[.string s0, .slice (some ⟨g1, 0, none⟩) n1 n1, .slice (some ⟨g2, 0, none⟩) n2 n2, .slice (some ⟨g3, 0, none⟩) n3 n3, .string s4, .slice (some ⟨g4, 0, none⟩) n4 n4] 27)).cell? ⟨w.heap.size, 1, none⟩ = some (.slice (some ⟨g1, 0, none⟩) n1 n1) := by rw [cell_of_row _ _ 1 _ _ (0, 0) (heap_alloc_new w _)]; rfl
  have q2 : (w.alloc (.cells #[.string s0, .slice (some ⟨g1, 0, none⟩) n1 n1, .slice (some ⟨g2, 0, none⟩) n2 n2, .slice (some ⟨g3, 0, none⟩) n3 n3, .string s4, .slice (some ⟨g4, 0, none⟩) n4 n4] 27)).cell? ⟨w.heap.size, 2, none⟩ = some (.slice (some ⟨g2, 0, none⟩) n2 n2) := by rw [cell_of_row _ _ 2 _ _ (0, 0) (heap_alloc_new w _)]; rfl
  have q3 : (w.alloc (.cells #[.string s0, .slice (some ⟨g1, 0, none⟩) n1 n1, .slice (some ⟨g2, 0, none⟩) n2 n2, .slice (some ⟨g3, 0, none⟩) n3 n3, .string s4, .slice (some ⟨g4, 0, none⟩) n4 n4] 27)).cell? ⟨w.heap.size, 3, none⟩ = some (.slice (some ⟨g3, 0, none⟩) n3 n3) := by rw [cell_of_row _ _ 3 _ _ (0, 0) (heap_alloc_new w _)]; rfl
  have q4 : (w.alloc (.cells #[.string s0, .slice (some ⟨g1, 0, none⟩) n1 n1, .slice (some ⟨g2, 0, none⟩) n2 n2, .slice (some ⟨g3, 0, none⟩) n3 n3, .string s4, .slice (some ⟨g4, 0, none⟩) n4 n4] 27)).cell? ⟨w.heap.size, 4, none⟩ = some (.string s4) := by rw [cell_of_row _ _ 4 _ _ (0, 0) (heap_alloc_new w _)]; rfl
  have q5 : (w.alloc (.cells #[.string s0, .slice (some ⟨g1, 0, none⟩) n1 n1, .slice (some ⟨g2, 0, none⟩) n2 n2, .slice (some ⟨g3, 0, none⟩) n3 n3, .string s4, .slice (some ⟨g4, 0, none⟩) n4 n4] 27)).cell? ⟨w.heap.size, 5, none⟩ = some (.slice (some ⟨g4, 0, none⟩) n4 n4) := by rw [cell_of_row _ _ 5 _ _ (0, 0) (heap_alloc_new w _)]; rfl
  have hW0 : w.heap.size < (w.alloc (.cells #[.string s0, .slice (some ⟨g1, 0, none⟩) n1 n1, .slice (some ⟨g2, 0, none⟩) n2 n2, .slice (some ⟨g3, 0, none⟩) n3 n3, .string s4, .slice (some ⟨g4, 0, none⟩) n4 n4] 27)).heap.size := by rw [World.size_alloc]; exact Nat.lt_succ_self _
  have C0 : Hid (∀ W', Later (w.alloc (.cells #[.string s0, .slice (some ⟨g1, 0, none⟩) n1 n1, .slice (some ⟨g2, 0, none⟩) n2 n2, .slice (some ⟨g3, 0, none⟩) n3 n3, .string s4, .slice (some ⟨g4, 0, none⟩) n4 n4] 27)) W' → W'.cell? ⟨w.heap.size, 0, none⟩ = some (.string s0) ∧ W'.cell? ⟨w.heap.size, 1, none⟩ = some (.slice (some ⟨g1, 0, none⟩) n1 n1) ∧ W'.cell? ⟨w.heap.size, 2, none⟩ = some (.slice (some ⟨g2, 0, none⟩) n2 n2) ∧ W'.cell? ⟨w.heap.size, 3, none⟩ = some (.slice (some ⟨g3, 0, none⟩) n3 n3) ∧ W'.cell? ⟨w.heap.size, 4, none⟩ = some (.string s4) ∧ W'.cell? ⟨w.heap.size, 5, none⟩ = some (.slice (some ⟨g4, 0, none⟩) n4 n4)) := Lib.hid (fun W' q => ⟨by rw [q.cell (p := ⟨w.heap.size, 0, none⟩) hW0]; exact q0, by rw [q.cell (p := ⟨w.heap.size, 1, none⟩) hW0]; exact q1, by rw [q.cell (p := ⟨w.heap.size, 2, none⟩) hW0]; exact q2, by rw [q.cell (p := ⟨w.heap.size, 3, none⟩) hW0]; exact q3, by rw [q.cell (p := ⟨w.heap.size, 4, none⟩) hW0]; exact q4, by rw [q.cell (p := ⟨w.heap.size, 5, none⟩) hW0]; exact q5⟩)
  have A0 : Hid (Later w (w.alloc (.cells #[.string s0, .slice (some ⟨g1, 0, none⟩) n1 n1, .slice (some ⟨g2, 0, none⟩) n2 n2, .slice (some ⟨g3, 0, none⟩) n3 n3, .string s4, .slice (some ⟨g4, 0, none⟩) n4 n4] 27))) := Lib.hid ((Later.refl _).alloc _)
  clear hW0
  go_enter Tryd.func37, Tryd.ntmps37
  go_wp2_with fail
  generalize (w.alloc (.cells #[.string s0, .slice (some ⟨g1, 0, none⟩) n1 n1, .slice (some ⟨g2, 0, none⟩) n2 n2, .slice (some ⟨g3, 0, none⟩) n3 n3, .string s4, .slice (some ⟨g4, 0, none⟩) n4 n4] 27)) = W0 at C0 A0 q0 q1 q2 q3 q4 q5 ⊢
  have RL := Lib.hid (Later.refl W0)
  go_region_held3 (fun W' => W'.cell? ⟨w.heap.size, 0, none⟩ = some (.string s0) ∧ W'.cell? ⟨w.heap.size, 1, none⟩ = some (.slice (some ⟨g1, 0, none⟩) n1 n1) ∧ W'.cell? ⟨w.heap.size, 2, none⟩ = some (.slice (some ⟨g2, 0, none⟩) n2 n2) ∧ W'.cell? ⟨w.heap.size, 3, none⟩ = some (.slice (some ⟨g3, 0, none⟩) n3 n3) ∧ W'.cell? ⟨w.heap.size, 4, none⟩ = some (.string s4) ∧ W'.cell? ⟨w.heap.size, 5, none⟩ = some (.slice (some ⟨g4, 0, none⟩) n4 n4)) (exact C0.out _ (by repeat (first | (with_reducible exact Later.refl _) | (with_reducible exact Hid.out (by assumption)) | (with_reducible refine Later.alloc ?_ _) | (with_reducible refine Later.setCell ?_ (by simp; omega) _) | (with_reducible refine Later.setCell ?_ (by simp) _) | (with_reducible refine Later.drewN ?_ _) | (with_reducible refine Later.drew ?_) | (with_reducible refine Later.trans ?_ (Hid.out (by assumption))))))
    (first
      | (go_at_call 70; (first | refine (HC.out W0 _ 24 A0.out (show Later (W0.alloc _) _ from (by repeat (first | (with_reducible exact Later.refl _) | (with_reducible exact Hid.out (by assumption)) | (with_reducible refine Later.alloc ?_ _) | (with_reducible refine Later.setCell ?_ (by simp; omega) _) | (with_reducible refine Later.setCell ?_ (by simp) _) | (with_reducible refine Later.drewN ?_ _) | (with_reducible refine Later.drew ?_) | (with_reducible refine Later.trans ?_ (Hid.out (by assumption))))))).mono ?_ | refine (HC.out W0.drew _ 24 A0.out.drew (show Later (W0.drew.alloc _) _ from (by repeat (first | (with_reducible exact Later.refl _) | (with_reducible exact Hid.out (by assumption)) | (with_reducible refine Later.alloc ?_ _) | (with_reducible refine Later.setCell ?_ (by simp; omega) _) | (with_reducible refine Later.setCell ?_ (by simp) _) | (with_reducible refine Later.drewN ?_ _) | (with_reducible refine Later.drew ?_) | (with_reducible refine Later.trans ?_ (Hid.out (by assumption))))))).mono ?_); rintro e w1 ⟨u, rfl, ho, hb⟩; obtain ⟨ua, uc, rfl, _, hus, _⟩ := ho.sts SHO.out; have S1 := Lib.hid hus; have H1 := Lib.hid hb; clear ho hb hus)
      | (go_at_call 53; refine (NB.out ua _ uc W0 _ A0.out (by repeat (first | (with_reducible exact Later.refl _) | (with_reducible exact Hid.out (by assumption)) | (with_reducible refine Later.alloc ?_ _) | (with_reducible refine Later.setCell ?_ (by simp; omega) _) | (with_reducible refine Later.setCell ?_ (by simp) _) | (with_reducible refine Later.drewN ?_ _) | (with_reducible refine Later.drew ?_) | (with_reducible refine Later.trans ?_ (Hid.out (by assumption))))) (S1.out.later (by repeat (first | (with_reducible exact Later.refl _) | (with_reducible exact Hid.out (by assumption)) | (with_reducible refine Later.alloc ?_ _) | (with_reducible refine Later.setCell ?_ (by simp; omega) _) | (with_reducible refine Later.setCell ?_ (by simp) _) | (with_reducible refine Later.drewN ?_ _) | (with_reducible refine Later.drew ?_) | (with_reducible refine Later.trans ?_ (Hid.out (by assumption))))))).mono ?_; rintro e w2 ⟨u2, rfl, ho, hb⟩; have O2 := Lib.hid ho; have H2 := Lib.hid hb; clear ho hb))
  all_goals
    go_wp2
    refine bodyPost_ret (v := .tuple #[u2, .int .i64 E]) (by simp [results, Tryd.results37, go_sem, *]) rfl ⟨_, rfl, ownT_monoN O2.out (Later.size (A0.out.trans (by repeat (first | (with_reducible exact Later.refl _) | (with_reducible exact Hid.out (by assumption)) | (with_reducible refine Later.alloc ?_ _) | (with_reducible refine Later.setCell ?_ (by simp; omega) _) | (with_reducible refine Later.setCell ?_ (by simp) _) | (with_reducible refine Later.drewN ?_ _) | (with_reducible refine Later.drew ?_) | (with_reducible refine Later.trans ?_ (Hid.out (by assumption))))))), A0.out.trans (by repeat (first | (with_reducible exact Later.refl _) | (with_reducible exact Hid.out (by assumption)) | (with_reducible refine Later.alloc ?_ _) | (with_reducible refine Later.setCell ?_ (by simp; omega) _) | (with_reducible refine Later.setCell ?_ (by simp) _) | (with_reducible refine Later.drewN ?_ _) | (with_reducible refine Later.drew ?_) | (with_reducible refine Later.trans ?_ (Hid.out (by assumption)))))⟩
end Go.Proofs.YtokipobjpinhmaaDoor
namespace Go.Proofs.YtokipobjpinhmaaDoor
open Go.RowKit Go.Shelf
set_option maxHeartbeats 4000000
set_option maxRecDepth 100000
set_option linter.unusedVariables false
set_option linter.unusedSimpArgs false
theorem s_Index (a : Option Addr) (n cap : Nat) (W : List (List UInt8)) (x : List UInt8) (w : World) (hs : Sts w a n W) :
    Calls Tryd.prog 72 #[.slice a n cap, .string (tx x)] w fun e w' => e = .returned (.int .i64 (ixV W x)) ∧ w = w' := by
  have HS := Lib.hid hs
  have HL := Lib.hid hs.1
  have hn := hs.2.1
  have EQ := Lib.hid (fun y => eqx y x)
  have RH := Lib.hid (fun j h1 h2 h3 => ixV_hit W x j h1 h2 h3)
  have RM := Lib.hid (fun h => ixV_miss W x h)
  obtain ⟨X, hX⟩ : ∃ X, X = tx x := ⟨_, rfl⟩
  rw [← hX] at EQ ⊢
  clear hs hX
  go_enter Tryd.func72, Tryd.ntmps72
  go_wp2_with fail
  go_loop [5] (fun i => ∃ k : Nat, k ≤ n ∧ i = .int .i64 k ∧ Hid (∀ j, j < k → wx W j ≠ x)) (fun i => n - (intOf i).toNat)
  case atStart => exact ⟨0, by omega, rfl, Lib.hid (by intro j h; omega)⟩
  case round =>
    obtain ⟨k, hk, rfl, HI⟩ := hrel
    by_cases hlt : k < n
    · obtain ⟨b, off, rfl, c0⟩ := HS.out.at k hlt
      have EK := EQ.out (wx W k)
      obtain ⟨y, hy⟩ : ∃ y, y = tx (wx W k) := ⟨_, rfl⟩
      rw [← hy] at c0 EK
      clear hy
      by_cases he : wx W k = x
      · rw [decide_eq_true he] at EK
        have HR := Lib.hid (RH.out k (by rw [HL.out]; exact hlt) he HI.out)
        clear he
        go_wp2_with fail
        all_goals
          go_ret
          exact ⟨by rw [HR.out]; rfl, rfl⟩
      · rw [decide_eq_false he] at EK
        have HE := Lib.hid he
        clear he
        go_wp2_with fail
        go_roundw
        case rel =>
          refine ⟨k + 1, by omega, by go_num, Lib.hid ?_⟩
          intro q hq
          rcases Nat.lt_or_ge q k with h1 | h1
          · exact HI.out q h1
          · obtain rfl : q = k := by omega
            exact HE.out
        case measure => simp [intOf]; omega
    · obtain rfl : k = n := by omega
      have HR := Lib.hid (RM.out (by rw [HL.out]; exact HI.out))
      go_wp2_with fail
      all_goals
        go_ret
        exact ⟨by rw [HR.out]; rfl, rfl⟩
theorem wx_take (W : List (List UInt8)) (k j : Nat) (h : j < k) : wx (W.take k) j = wx W j := by
  unfold wx
  rw [List.getD_eq_getElem?_getD, List.getD_eq_getElem?_getD, List.getElem?_take, if_pos h]
theorem Stm.takeN {m : Nat} {w : World} {a : Option Addr} {n : Nat} {W : List (List UInt8)} (h : Stm m w a n W) (k : Nat) (hk : k ≤ n) : Stm m w a k (W.take k) := by
  refine ⟨by rw [List.length_take, h.1]; omega, by have := h.2.1; omega, fun j hj => ?_, fun x hx => h.2.2.2 x (List.mem_of_mem_take hx)⟩
  obtain ⟨b, off, e, hc⟩ := h.2.2.1 j (by omega)
  exact ⟨b, off, e, by rw [wx_take W k j hj]; exact hc⟩
theorem nodup_take_succ (W : List (List UInt8)) (k : Nat) (h : k < W.length) (hn : (W.take k).Nodup) (hm : wx W k ∉ W.take k) : (W.take (k + 1)).Nodup := by
  rw [take_wx W k h, List.nodup_append]
  exact ⟨hn, by simp, fun a ha b hb => by simp at hb; intro e; subst e; subst hb; exact hm ha⟩
theorem nodup_bad (W : List (List UInt8)) (k : Nat) (h : k < W.length) (hm : wx W k ∈ W.take k) : ¬ W.Nodup := by
  intro hn
  have h2 : (W.take (k + 1)).Nodup := hn.sublist (List.take_sublist _ _)
  rw [take_wx W k h, List.nodup_append] at h2
  exact h2.2.2 _ hm _ (by simp) rfl
theorem s_Twice (a : Option Addr) (n cap : Nat) (W : List (List UInt8)) (w : World) (hs : Sts w a n W) (hc : n ≤ cap) (hcm : cap ≤ 9223372036854775807) (hn0 : ∃ b, a = some ⟨b, 0, none⟩) :
    Calls Tryd.prog 99 #[.slice a n cap] w fun e w' => e = .returned (.bool (!decide W.Nodup)) ∧ Later w w' := by
  obtain ⟨b0, rfl⟩ := hn0
  have HS := Lib.hid hs
  have HL := Lib.hid hs.1
  have hn := hs.2.1
  have HT := Lib.hid (fun k (h : k ≤ n) => hs.takeN k h)
  have HG := Lib.hid (fun k h1 h2 h3 => nodup_take_succ W k h1 h2 h3)
  have HB := Lib.hid (fun k h1 h2 => nodup_bad W k h1 h2)
  have HF : Hid ((W.take n).Nodup → W.Nodup) := Lib.hid (by rw [List.take_of_length_le (by rw [hs.1]; exact Nat.le_refl _)]; exact id)
  clear hs
  go_enter Tryd.func99, Tryd.ntmps99
  go_wp2_with fail
  go_loopw [3] (fun i wr => ∃ k : Nat, k ≤ n ∧ i = .int .i64 k ∧ Later w wr ∧ Hid ((W.take k).Nodup)) (fun i _ => n - (intOf i).toNat)
  case atStart => exact ⟨0, by omega, rfl, Later.refl _, Lib.hid (by simp)⟩
  case round =>
    obtain ⟨k, hk, rfl, hb, HI⟩ := hrel
    have B3 := Lib.hid hb
    by_cases hlt : k < n
    · obtain ⟨b, off, e, c0⟩ := (HS.out.later hb).at k hlt
      clear hb
      cases e
      rw [Nat.zero_add] at c0
      have HX := Lib.hid (HT.out k hk)
      have HM := Lib.hid (ixV_mem (W.take k) (wx W k))
      have SI : Hid (∀ V, Later w V → Calls Tryd.prog 72 #[.slice (some ⟨b0, 0, none⟩) k cap, .string (tx (wx W k))] V fun e w' => e = .returned (.int .i64 (ixV (W.take k) (wx W k))) ∧ w' = V) := Lib.hid (fun V h => (s_Index _ k cap (W.take k) (wx W k) V (HX.out.later h)).mono fun _ _ q => ⟨q.1, q.2.symm⟩)
      generalize ixV (W.take k) (wx W k) = r at HM SI
      have HG2 := Lib.hid (HG.out k (by rw [HL.out]; exact hlt) HI.out)
      have HB2 := Lib.hid (HB.out k (by rw [HL.out]; exact hlt))
      have HM2 : Hid ((0 ≤ r → wx W k ∈ W.take k) ∧ (wx W k ∈ W.take k → 0 ≤ r)) := Lib.hid ⟨HM.out.1, HM.out.2⟩
      obtain ⟨y, hy⟩ : ∃ y, y = tx (wx W k) := ⟨_, rfl⟩
      rw [← hy] at c0 SI
      clear hy HM
      have hkc : k ≤ cap := by omega
      by_cases hr : 0 ≤ r
      · have HD : Hid (decide W.Nodup = false) := Lib.hid (decide_eq_false (HB2.out (HM2.out.1 hr)))
        go_wp2_with fail
        go_quiet ((go_at_call 72; exact Calls.quiet_of_same (SI.out _ (B3.out.drewN _))))
        all_goals
          go_wp2
          go_ret
          exact ⟨by rw [HD.out]; rfl, B3.out.drewN _⟩
      · have HD := Lib.hid (HG2.out (fun h => hr (HM2.out.2 h)))
        go_wp2_with fail
        go_quiet ((go_at_call 72; exact Calls.quiet_of_same (SI.out _ (B3.out.drewN _))))
        all_goals
          go_wp2
          go_roundw
          case rel => exact ⟨k + 1, by omega, by go_num, B3.out.drewN _, HD⟩
          case measure => simp [intOf]; omega
    · obtain rfl : k = n := by omega
      have HD : Hid (decide W.Nodup = true) := Lib.hid (decide_eq_true (HF.out HI.out))
      go_wp2_with fail
      all_goals
        go_ret
        exact ⟨by rw [HD.out]; rfl, B3.out⟩
theorem s_Readable (v : Value) (p : Prg) (x : List UInt8) (w : World) (hp : PgV w v p) :
    Calls Tryd.prog 100 #[v, .string (tx x)] w fun e w' => e = .returned (.bool (decide (x ∈ p.ins ++ p.vrs))) ∧ Later w w' := by
  obtain ⟨a1, c1, a2, c2, a3, c3, a4, c4, rfl, h1, h2, h3, h4, h5, h6⟩ := hp
  have I1 := Lib.hid (fun W (h : Later w W) => s_Index a1 p.ins.length c1 p.ins x W (h1.later h))
  have I2 := Lib.hid (fun W (h : Later w W) => s_Index a2 p.vrs.length c2 p.vrs x W (h2.later h))
  have HV : Hid (decide (x ∈ p.ins ++ p.vrs) = (decide (0 ≤ ixV p.ins x) || decide (0 ≤ ixV p.vrs x))) := Lib.hid (by
    rw [decide_eq_decide.2 (ixV_mem p.ins x), decide_eq_decide.2 (ixV_mem p.vrs x), ← Bool.decide_or]
    exact decide_eq_decide.2 List.mem_append)
  clear h1 h2 h3 h4 h5 h6
  obtain ⟨X, hX⟩ : ∃ X, X = tx x := ⟨_, rfl⟩
  rw [← hX] at I1 I2 ⊢
  generalize decide (x ∈ p.ins ++ p.vrs) = V at HV ⊢
  generalize ixV p.ins x = r1 at I1 HV
  generalize ixV p.vrs x = r2 at I2 HV
  obtain ⟨s0, hs0⟩ : ∃ q, q = tx p.nm := ⟨_, rfl⟩
  obtain ⟨s4, hs4⟩ : ∃ q, q = tx p.grd := ⟨_, rfl⟩
  obtain ⟨n1, hn1⟩ : ∃ q, q = p.ins.length := ⟨_, rfl⟩
  obtain ⟨n2, hn2⟩ : ∃ q, q = p.vrs.length := ⟨_, rfl⟩
  obtain ⟨n3, hn3⟩ : ∃ q, q = p.outs.length := ⟨_, rfl⟩
  obtain ⟨n4, hn4⟩ : ∃ q, q = p.lns.length := ⟨_, rfl⟩
  simp only [← hs0, ← hs4, ← hn1, ← hn2, ← hn3, ← hn4] at I1 I2 ⊢
  clear hs0 hs4 hn1 hn2 hn3 hn4 hX
  have q0 : (w.alloc (.cells #[.string s0, .slice a1 n1 c1, .slice a2 n2 c2, .slice a3 n3 c3, .string s4, .slice a4 n4 c4] 27)).cell? ⟨w.heap.size, 0, none⟩ = some (.string s0) := by rw [cell_of_row _ _ 0 _ _ (0, 0) (heap_alloc_new w _)]; rfl
  have q1 : (w.alloc (.cells #[.string s0, .slice a1 n1 c1, .slice a2 n2 c2, .slice a3 n3 c3, .string s4, .slice a4 n4 c4] 27)).cell? ⟨w.heap.size, 1, none⟩ = some (.slice a1 n1 c1) := by rw [cell_of_row _ _ 1 _ _ (0, 0) (heap_alloc_new w _)]; rfl
  have q2 : (w.alloc (.cells #[.string s0, .slice a1 n1 c1, .slice a2 n2 c2, .slice a3 n3 c3, .string s4, .slice a4 n4 c4] 27)).cell? ⟨w.heap.size, 2, none⟩ = some (.slice a2 n2 c2) := by rw [cell_of_row _ _ 2 _ _ (0, 0) (heap_alloc_new w _)]; rfl
  have q3 : (w.alloc (.cells #[.string s0, .slice a1 n1 c1, .slice a2 n2 c2, .slice a3 n3 c3, .string s4, .slice a4 n4 c4] 27)).cell? ⟨w.heap.size, 3, none⟩ = some (.slice a3 n3 c3) := by rw [cell_of_row _ _ 3 _ _ (0, 0) (heap_alloc_new w _)]; rfl
  have q4 : (w.alloc (.cells #[.string s0, .slice a1 n1 c1, .slice a2 n2 c2, .slice a3 n3 c3, .string s4, .slice a4 n4 c4] 27)).cell? ⟨w.heap.size, 4, none⟩ = some (.string s4) := by rw [cell_of_row _ _ 4 _ _ (0, 0) (heap_alloc_new w _)]; rfl
  have q5 : (w.alloc (.cells #[.string s0, .slice a1 n1 c1, .slice a2 n2 c2, .slice a3 n3 c3, .string s4, .slice a4 n4 c4] 27)).cell? ⟨w.heap.size, 5, none⟩ = some (.slice a4 n4 c4) := by rw [cell_of_row _ _ 5 _ _ (0, 0) (heap_alloc_new w _)]; rfl
  have hW0 : w.heap.size < (w.alloc (.cells #[.string s0, .slice a1 n1 c1, .slice a2 n2 c2, .slice a3 n3 c3, .string s4, .slice a4 n4 c4] 27)).heap.size := by rw [World.size_alloc]; exact Nat.lt_succ_self _
  have C0 : Hid (∀ W', Later (w.alloc (.cells #[.string s0, .slice a1 n1 c1, .slice a2 n2 c2, .slice a3 n3 c3, .string s4, .slice a4 n4 c4] 27)) W' → W'.cell? ⟨w.heap.size, 0, none⟩ = some (.string s0) ∧ W'.cell? ⟨w.heap.size, 1, none⟩ = some (.slice a1 n1 c1) ∧ W'.cell? ⟨w.heap.size, 2, none⟩ = some (.slice a2 n2 c2) ∧ W'.cell? ⟨w.heap.size, 3, none⟩ = some (.slice a3 n3 c3) ∧ W'.cell? ⟨w.heap.size, 4, none⟩ = some (.string s4) ∧ W'.cell? ⟨w.heap.size, 5, none⟩ = some (.slice a4 n4 c4)) := Lib.hid (fun W' q => ⟨by rw [q.cell (p := ⟨w.heap.size, 0, none⟩) hW0]; exact q0, by rw [q.cell (p := ⟨w.heap.size, 1, none⟩) hW0]; exact q1, by rw [q.cell (p := ⟨w.heap.size, 2, none⟩) hW0]; exact q2, by rw [q.cell (p := ⟨w.heap.size, 3, none⟩) hW0]; exact q3, by rw [q.cell (p := ⟨w.heap.size, 4, none⟩) hW0]; exact q4, by rw [q.cell (p := ⟨w.heap.size, 5, none⟩) hW0]; exact q5⟩)
  have A0 : Hid (Later w (w.alloc (.cells #[.string s0, .slice a1 n1 c1, .slice a2 n2 c2, .slice a3 n3 c3, .string s4, .slice a4 n4 c4] 27))) := Lib.hid ((Later.refl _).alloc _)
  clear hW0
  have I1 := Lib.hid (I1.out _ A0.out)
  have I2 := Lib.hid (I2.out _ A0.out)
  clear C0
  by_cases hr : 0 ≤ r1
  · have HV2 : Hid (V = true) := Lib.hid (by rw [HV.out, decide_eq_true hr]; rfl)
    go_enter Tryd.func100, Tryd.ntmps100
    go_wp2_with (go_at_call 72; refine I1.out.mono ?_; rintro e w' ⟨rfl, rfl⟩)
    all_goals
      go_ret
      exact ⟨by rw [HV2.out]; rfl, A0.out⟩
  · have hd : decide (0 ≤ r1) = false := decide_eq_false hr
    by_cases hr2 : 0 ≤ r2
    · have HV2 : Hid (V = true) := Lib.hid (by rw [HV.out, decide_eq_true hr2]; simp)
      have hd2 : decide (0 ≤ r2) = true := decide_eq_true hr2
      go_enter Tryd.func100, Tryd.ntmps100
      go_wp2_with (first | (go_at_call_of 72 a1; refine I1.out.mono ?_; rintro e w' ⟨rfl, rfl⟩) | (go_at_call_of 72 a2; refine I2.out.mono ?_; rintro e w' ⟨rfl, rfl⟩))
      all_goals
        go_ret
        exact ⟨by rw [HV2.out]; rfl, A0.out⟩
    · have HV2 : Hid (V = false) := Lib.hid (by rw [HV.out, hd, decide_eq_false hr2]; rfl)
      have hd2 : decide (0 ≤ r2) = false := decide_eq_false hr2
      go_enter Tryd.func100, Tryd.ntmps100
      go_wp2_with (first | (go_at_call_of 72 a1; refine I1.out.mono ?_; rintro e w' ⟨rfl, rfl⟩) | (go_at_call_of 72 a2; refine I2.out.mono ?_; rintro e w' ⟨rfl, rfl⟩))
      all_goals
        go_ret
        exact ⟨by rw [HV2.out]; rfl, A0.out⟩
theorem ownT_newN (w : World) (base : Nat) (h : base ≤ w.heap.size) : OwnT (w.alloc (.cells #[] 9)) base (.slice (some ⟨w.heap.size, 0, none⟩) 0 0) [] :=
  World.ownsRow_made w #[] 0 h (by unfold maxLen; omega) (by simp)
theorem s_All (base : Nat) (v : Value) (p : Prg) (w : World) (hp : PgC base w v p) (hb : Wb p) : Calls Tryd.prog 73 #[v] w (RetTs w (p.ins ++ p.vrs ++ p.outs)) := by
  obtain ⟨g1, g2, g3, g4, rfl, _, ⟨h1, _⟩, ⟨h2, _⟩, ⟨h3, _⟩, _, _, _⟩ := hp
  obtain ⟨b1, b2, b3, b4, b5, _, _⟩ := hb
  have S1 := Lib.hid h1; have S2 := Lib.hid h2; have S3 := Lib.hid h3
  have L1 : p.ins.length ≤ 20 := b3
  have L2 : (p.ins ++ p.vrs).length ≤ 40 := by rw [List.length_append]; omega
  have E1 : Hid (([] : List (List UInt8)) ++ p.ins = p.ins) := Lib.hid rfl
  obtain ⟨s0, hs0⟩ : ∃ q, q = tx p.nm := ⟨_, rfl⟩
  obtain ⟨s4, hs4⟩ : ∃ q, q = tx p.grd := ⟨_, rfl⟩
  obtain ⟨n1, hn1⟩ : ∃ q, q = p.ins.length := ⟨_, rfl⟩
  obtain ⟨n2, hn2⟩ : ∃ q, q = p.vrs.length := ⟨_, rfl⟩
  obtain ⟨n3, hn3⟩ : ∃ q, q = p.outs.length := ⟨_, rfl⟩
  obtain ⟨n4, hn4⟩ : ∃ q, q = p.lns.length := ⟨_, rfl⟩
  simp only [← hs0, ← hs4, ← hn1, ← hn2, ← hn3, ← hn4] at S1 S2 S3 b1 b2 b3 b4 b5 ⊢
  clear hs0 hs4 hn1 hn2 hn3 hn4 h1 h2 h3
  have q1 : (w.alloc (.cells #[.string s0, .slice (some ⟨g1, 0, none⟩) n1 n1, .slice (some ⟨g2, 0, none⟩) n2 n2, .slice (some ⟨g3, 0, none⟩) n3 n3, .string s4, .slice (some ⟨g4, 0, none⟩) n4 n4] 27)).cell? ⟨w.heap.size, 1, none⟩ = some (.slice (some ⟨g1, 0, none⟩) n1 n1) := by rw [cell_of_row _ _ 1 _ _ (0, 0) (heap_alloc_new w _)]; rfl
  have q2 : (w.alloc (.cells #[.string s0, .slice (some ⟨g1, 0, none⟩) n1 n1, .slice (some ⟨g2, 0, none⟩) n2 n2, .slice (some ⟨g3, 0, none⟩) n3 n3, .string s4, .slice (some ⟨g4, 0, none⟩) n4 n4] 27)).cell? ⟨w.heap.size, 2, none⟩ = some (.slice (some ⟨g2, 0, none⟩) n2 n2) := by rw [cell_of_row _ _ 2 _ _ (0, 0) (heap_alloc_new w _)]; rfl
  have q3 : (w.alloc (.cells #[.string s0, .slice (some ⟨g1, 0, none⟩) n1 n1, .slice (some ⟨g2, 0, none⟩) n2 n2, .slice (some ⟨g3, 0, none⟩) n3 n3, .string s4, .slice (some ⟨g4, 0, none⟩) n4 n4] 27)).cell? ⟨w.heap.size, 3, none⟩ = some (.slice (some ⟨g3, 0, none⟩) n3 n3) := by rw [cell_of_row _ _ 3 _ _ (0, 0) (heap_alloc_new w _)]; rfl
  have A0 : Hid (Later w (w.alloc (.cells #[.string s0, .slice (some ⟨g1, 0, none⟩) n1 n1, .slice (some ⟨g2, 0, none⟩) n2 n2, .slice (some ⟨g3, 0, none⟩) n3 n3, .string s4, .slice (some ⟨g4, 0, none⟩) n4 n4] 27))) := Lib.hid ((Later.refl _).alloc _)
  have hz : (w.alloc (.cells #[.string s0, .slice (some ⟨g1, 0, none⟩) n1 n1, .slice (some ⟨g2, 0, none⟩) n2 n2, .slice (some ⟨g3, 0, none⟩) n3 n3, .string s4, .slice (some ⟨g4, 0, none⟩) n4 n4] 27)).heap.size = w.heap.size + 1 := World.size_alloc _ _
  have ON : Hid (OwnT ((w.alloc (.cells #[.string s0, .slice (some ⟨g1, 0, none⟩) n1 n1, .slice (some ⟨g2, 0, none⟩) n2 n2, .slice (some ⟨g3, 0, none⟩) n3 n3, .string s4, .slice (some ⟨g4, 0, none⟩) n4 n4] 27)).alloc (.cells #[] 9)) (w.heap.size + 1) (.slice (some ⟨w.heap.size + 1, 0, none⟩) 0 0) []) := Lib.hid (by have h := ownT_newN (w.alloc (.cells #[.string s0, .slice (some ⟨g1, 0, none⟩) n1 n1, .slice (some ⟨g2, 0, none⟩) n2 n2, .slice (some ⟨g3, 0, none⟩) n3 n3, .string s4, .slice (some ⟨g4, 0, none⟩) n4 n4] 27)) (w.heap.size + 1) (by rw [World.size_alloc]; exact Nat.le_refl _); rwa [World.size_alloc] at h)
  have Q2 : Hid (((w.alloc (.cells #[.string s0, .slice (some ⟨g1, 0, none⟩) n1 n1, .slice (some ⟨g2, 0, none⟩) n2 n2, .slice (some ⟨g3, 0, none⟩) n3 n3, .string s4, .slice (some ⟨g4, 0, none⟩) n4 n4] 27)).alloc (.cells #[] 9)).cell? ⟨w.heap.size, 2, none⟩ = some (.slice (some ⟨g2, 0, none⟩) n2 n2)) := Lib.hid (by rw [World.cell?_alloc_lt _ _ ⟨w.heap.size, 2, none⟩ (by rw [hz]; exact Nat.lt_succ_self _)]; exact q2)
  have Q3 : Hid (((w.alloc (.cells #[.string s0, .slice (some ⟨g1, 0, none⟩) n1 n1, .slice (some ⟨g2, 0, none⟩) n2 n2, .slice (some ⟨g3, 0, none⟩) n3 n3, .string s4, .slice (some ⟨g4, 0, none⟩) n4 n4] 27)).alloc (.cells #[] 9)).cell? ⟨w.heap.size, 3, none⟩ = some (.slice (some ⟨g3, 0, none⟩) n3 n3)) := Lib.hid (by rw [World.cell?_alloc_lt _ _ ⟨w.heap.size, 3, none⟩ (by rw [hz]; exact Nat.lt_succ_self _)]; exact q3)
  have A1 : Hid (Later w ((w.alloc (.cells #[.string s0, .slice (some ⟨g1, 0, none⟩) n1 n1, .slice (some ⟨g2, 0, none⟩) n2 n2, .slice (some ⟨g3, 0, none⟩) n3 n3, .string s4, .slice (some ⟨g4, 0, none⟩) n4 n4] 27)).alloc (.cells #[] 9))) := Lib.hid (A0.out.alloc _)
  go_enter Tryd.func73, Tryd.ntmps73
  go_wp2_with (first
    | (at_builtin; refine appTm rfl _ _ rfl (w.heap.size + 1) _ _ [] p.ins g1 0 n1 n1 ON.out (S1.out.later A1.out) rfl rfl (by simp) (by omega) (by rw [World.size_alloc, World.size_alloc]; omega) ?_; intro v1 w1 ho hgr; have O1 := Lib.hid (E1.out ▸ ho); have B1 : Hid (Later w w1) := Lib.hid (Below.grown A1.out hgr A1.out.size (fun j hj => by cases hj; exact Nat.le_succ _)); have hs1 : w.heap.size + 1 ≤ w1.heap.size := Nat.le_trans (by rw [World.size_alloc, World.size_alloc]; omega) hgr.size; have R3 := Lib.hid (hgr.cell Q3.out (by simp [Value.ownBlock])); have q2 := hgr.cell Q2.out (by simp [Value.ownBlock]); clear ho hgr)
    | (at_builtin; refine appTm rfl _ _ rfl (w.heap.size + 1) _ _ p.ins p.vrs g2 0 n2 n2 O1.out (S2.out.later B1.out) rfl rfl (by omega) (by omega) hs1 ?_; intro v2 w2 ho hgr; have O2 := Lib.hid ho; have B2 : Hid (Later w w2) := Lib.hid (Below.grown B1.out hgr B1.out.size (fun j hj => Nat.le_trans (Nat.le_succ _) (O1.out.lt j hj).1)); have hs2 : w.heap.size + 1 ≤ w2.heap.size := Nat.le_trans hs1 hgr.size; have q3 := hgr.cell R3.out (fun e => by have := (O1.out.lt _ e.symm).1; simp at this; omega); clear ho hgr)
    | (at_builtin; refine appTm rfl _ _ rfl (w.heap.size + 1) _ _ (p.ins ++ p.vrs) p.outs g3 0 n3 n3 O2.out (S3.out.later B2.out) rfl rfl (by omega) (by omega) hs2 ?_; intro v3 w3 ho hgr; have O3 := Lib.hid ho; have B3 : Hid (Later w w3) := Lib.hid (Below.grown B2.out hgr B2.out.size (fun j hj => Nat.le_trans (Nat.le_succ _) (O2.out.lt j hj).1)); clear ho hgr))
  go_ret
  exact ⟨_, rfl, ownT_monoN O3.out (Nat.le_succ _), B3.out⟩
end Go.Proofs.YtokipobjpinhmaaDoor
namespace Go.Proofs.YtokipobjpinhmaaDoor
open Go.RowKit Go.Shelf
set_option maxHeartbeats 16000000
set_option maxRecDepth 100000
set_option linter.unusedVariables false
set_option linter.unusedSimpArgs false
theorem OwnT.rowC {w : World} {base : Nat} {v : Value} {l : List (List UInt8)} (h : OwnT w base v l) (hl : l ≠ []) (hs : ∀ x ∈ l, x.length ≤ 1048576) {n : Nat} (hn : l.length = n) : ∃ g cap, v = .slice (some ⟨g, 0, none⟩) n cap ∧ n ≤ cap ∧ cap ≤ 9223372036854775807 ∧ Sts w (some ⟨g, 0, none⟩) n l := by
  subst hn
  have h1 : w.ownsRow base 9 1 v l.length (l.map (fun x => Value.string (tx x))) := h
  obtain ⟨a, c, rfl, hc, hsts, _⟩ := h.sts hs
  rcases h1.2 with ⟨e, hz⟩ | ⟨g, cap, cur, e, hb, hg, hnc, hcm, _⟩
  · exact absurd (List.length_eq_zero_iff.1 hz) hl
  · cases e
    have hm := hcm
    unfold maxLen at hm
    exact ⟨g, c, rfl, hc, by omega, hsts⟩
/-- a slice of texts in a row of its own, handed back to be read -/
def RetRow (w : World) (S : List (List UInt8)) (e : Ending) (w' : World) : Prop := ∃ g n c, e = .returned (.slice (some ⟨g, 0, none⟩) n c) ∧ n ≤ c ∧ c ≤ 9223372036854775807 ∧ Sts w' (some ⟨g, 0, none⟩) n S ∧ Later w w'
theorem RetTs.row {w : World} {S : List (List UInt8)} (hl : S ≠ []) (hs : ∀ x ∈ S, x.length ≤ 1048576) {e : Ending} {w' : World} (h : RetTs w S e w') : RetRow w S e w' := by
  obtain ⟨u, rfl, ho, hb⟩ := h
  obtain ⟨g, c, rfl, h1, h2, h3⟩ := ho.rowC hl hs rfl
  exact ⟨g, _, c, rfl, h1, h2, h3, hb⟩
theorem wl_of (p : Prg) (h : wrtB p = true) : 1 ≤ p.lns.length := by
  simp [wrtB, lnsB] at h
  exact h.2.1.2
theorem nmV_mem (M : List Lne) (j : Nat) (h : j < M.length) (x : List UInt8) (hx : x ∈ nmT (lrx M j)) : x ∈ nmV M := by
  unfold nmV
  rw [List.mem_flatMap]
  exact ⟨_, lx_mem M j h, hx⟩
theorem nmV_all (M : List Lne) (S : List (List UInt8)) (h : ∀ j, j < M.length → ∀ x ∈ nmT (lrx M j), x ∈ S) : allIn S (nmV M) = true := by
  refine List.all_eq_true.2 fun x hx => ?_
  obtain ⟨y, hy, hx⟩ := List.mem_flatMap.1 hx
  obtain ⟨j, hj, rfl⟩ := List.mem_iff_getElem.1 hy
  rw [lx_at M j hj] at hx
  exact decide_eq_true (h j hj x hx)
theorem allIn_no (S W : List (List UInt8)) (x : List UInt8) (h : x ∈ W) (hb : x ∉ S) : allIn S W = false := by
  cases h2 : allIn S W with
  | false => rfl
  | true =>
    have := List.all_eq_true.1 h2 x h
    simp [hb] at this
theorem tgs_mem (M : List Lne) (j : Nat) (h : j < M.length) : ltx M j ∈ tgs M := by
  rw [← tgs_at M j h]; exact wx_mem _ j (by rw [tgs_len]; exact h)
theorem tgs_allIn (M : List Lne) (S : List (List UInt8)) (h : ∀ j, j < M.length → ltx M j ∈ S) : allIn S (tgs M) = true :=
  allIn_all S (tgs M) fun j hj => by
    rw [tgs_len] at hj
    rw [tgs_at M j hj]; exact h j hj
/-- what the model's rules say of the fault's number -/
structure Flt (p : Prg) (V : Int) : Prop where
  f1 : ru1 p = false → V = 1
  f2 : ru1 p = true → ru2 p = false → V = 2
  f3 : ru1 p = true → ru2 p = true → ru3 p = false → V = 3
  f4 : ru1 p = true → ru2 p = true → ru3 p = true → ru4 p = false → V = 4
  f5 : ru1 p = true → ru2 p = true → ru3 p = true → ru4 p = true → p.lns.length < p.vrs.length + p.outs.length → V = 5
  f6 : ru1 p = true → ru2 p = true → ru3 p = true → ru4 p = true → ¬ p.lns.length < p.vrs.length + p.outs.length → ru6 p = false → V = 6
  f0 : ru1 p = true → ru2 p = true → ru3 p = true → ru4 p = true → ¬ p.lns.length < p.vrs.length + p.outs.length → ru6 p = true → V = 0
theorem flt_model (p : Prg) : Flt p (fltV p) := by
  have k5 : ru1 p = true → ru3 p = true → ru4 p = true → ru5 p = !decide (p.lns.length < p.vrs.length + p.outs.length) := ru5_len p
  constructor
  · intro h1; simp [fltV, h1]
  · intro h1 h2; simp [fltV, h1, h2]
  · intro h1 h2 h3; simp [fltV, h1, h2, h3]
  · intro h1 h2 h3 h4; simp [fltV, h1, h2, h3, h4]
  · intro h1 h2 h3 h4 h5
    have := k5 h1 h3 h4
    rw [decide_eq_true h5] at this
    simp [fltV, h1, h2, h3, h4, this]
  · intro h1 h2 h3 h4 h5 h6
    have := k5 h1 h3 h4
    rw [decide_eq_false h5] at this
    simp [fltV, h1, h2, h3, h4, this, h6]
  · intro h1 h2 h3 h4 h5 h6
    have := k5 h1 h3 h4
    rw [decide_eq_false h5] at this
    simp [fltV, h1, h2, h3, h4, this, h6]
theorem s_Fault (base : Nat) (v : Value) (p : Prg) (w : World) (hp : PgC base w v p) (hw : wrtB p = true) : Calls Tryd.prog 52 #[v] w fun e w' => e = .returned (.int .i64 (fltV p)) ∧ Later w w' := by
  obtain ⟨s1, s2, s3, s4s, s5⟩ := hp.pgv.shorts
  have hb := wb_of p hw
  have hne : p.ins ++ p.vrs ++ p.outs ≠ [] := by
    intro h
    have h1 := hb.1
    have h2 := congrArg List.length h
    rw [List.length_append, List.length_append, List.length_nil] at h2
    omega
  have hne4 : tgs p.lns ≠ [] := by
    intro h
    have h2 := wl_of p hw
    have := congrArg List.length h
    rw [tgs_len] at this
    simp at this
    rw [this] at h2; simp at h2
  have HNE := Lib.hid hne4
  have AL := Lib.hid (fun W (h : Later w W) => (s_All base v p W (hp.later h) hb).mono fun _ _ q => RetTs.row hne (mem_app2 (mem_app2 s1 s2) s3) q)
  have RD := Lib.hid (fun x W (h : Later w W) => s_Readable v p x W (hp.pgv.later h))
  have RG := Lib.hid (fun W (h : Later w W) => s_Readable v p p.grd W (hp.pgv.later h))
  have FV := Lib.hid (flt_model p)
  have EG : ((tx p.grd).toList.isEmpty) = decide (p.grd = []) := by
    rw [Lib.toList_data]
    show p.grd.isEmpty = _
    cases p.grd <;> simp
  have HR1 : Hid (ru1 p = decide (p.ins ++ p.vrs ++ p.outs).Nodup) := Lib.hid rfl
  have HR2 : Hid (ru2 p = (decide (p.grd = []) || decide (p.grd ∈ p.ins ++ p.vrs))) := Lib.hid rfl
  have HR3 : Hid (ru3 p = allIn (p.vrs ++ p.outs) (tgs p.lns)) := Lib.hid rfl
  have HR4 : Hid (ru4 p = decide (tgs p.lns).Nodup) := Lib.hid rfl
  have HR6 : Hid (ru6 p = allIn (p.ins ++ p.vrs) (nmV p.lns)) := Lib.hid rfl
  have HSH := Lib.hid s4s
  obtain ⟨b1, b2, b3, b4, b5, b6, _⟩ := hb
  have B40 : Hid (∀ j, j < p.lns.length → (lrx p.lns j).length ≤ 40) := Lib.hid (fun j hj => (wb_of p hw).len j hj)
  obtain ⟨a1, c1, a2, c2, a3, c3, a4, c4, rfl, h1, h2, h3, h4, _, _⟩ := hp.pgv
  have I2 := Lib.hid (fun y W (h : Later w W) => s_Index a2 p.vrs.length c2 p.vrs y W (h2.later h))
  have I3 := Lib.hid (fun y W (h : Later w W) => s_Index a3 p.outs.length c3 p.outs y W (h3.later h))
  have P4 := Lib.hid h4
  have HN4 : Hid ((tgs p.lns).length = p.lns.length) := Lib.hid (tgs_len _)
  have HT4 : Hid (∀ k, k < p.lns.length → (tgs p.lns).take (k + 1) = (tgs p.lns).take k ++ [ltx p.lns k]) := Lib.hid (fun k h => tgs_take p.lns k h)
  have HF4 : Hid ((tgs p.lns).take p.lns.length = tgs p.lns) := Lib.hid (List.take_of_length_le (by rw [tgs_len]; exact Nat.le_refl _))
  have HZ4 : Hid (∀ k, k ≤ p.lns.length → ((tgs p.lns).take k).length = k) := Lib.hid (fun k h => by rw [List.length_take, tgs_len]; omega)
  have HM4 : Hid (∀ j, j < p.lns.length → ltx p.lns j ∈ tgs p.lns) := Lib.hid (fun j h => tgs_mem p.lns j h)
  have HA4 : Hid ((∀ j, j < p.lns.length → ltx p.lns j ∈ p.vrs ++ p.outs) → allIn (p.vrs ++ p.outs) (tgs p.lns) = true) := Lib.hid (tgs_allIn p.lns _)
  have HM6 : Hid (∀ j, j < p.lns.length → ∀ x, x ∈ nmT (lrx p.lns j) → x ∈ nmV p.lns) := Lib.hid (fun j h x hx => nmV_mem p.lns j h x hx)
  have HA6 : Hid ((∀ j, j < p.lns.length → ∀ x ∈ nmT (lrx p.lns j), x ∈ p.ins ++ p.vrs) → allIn (p.ins ++ p.vrs) (nmV p.lns) = true) := Lib.hid (nmV_all p.lns _)
  have FX : Hid (∀ V, Flt p V → ((ru1 p = false → V = 1) ∧ (ru1 p = true → ru2 p = false → V = 2) ∧ (ru1 p = true → ru2 p = true → ru3 p = false → V = 3) ∧ (ru1 p = true → ru2 p = true → ru3 p = true → ru4 p = false → V = 4) ∧ (ru1 p = true → ru2 p = true → ru3 p = true → ru4 p = true → p.lns.length < p.vrs.length + p.outs.length → V = 5) ∧ (ru1 p = true → ru2 p = true → ru3 p = true → ru4 p = true → ¬ p.lns.length < p.vrs.length + p.outs.length → ru6 p = false → V = 6) ∧ (ru1 p = true → ru2 p = true → ru3 p = true → ru4 p = true → ¬ p.lns.length < p.vrs.length + p.outs.length → ru6 p = true → V = 0))) := Lib.hid (fun V h => ⟨h.f1, h.f2, h.f3, h.f4, h.f5, h.f6, h.f0⟩)
  have FX := Lib.hid (FX.out _ FV.out)
  clear hp hw hne hne4 h1 h2 h3 h4 s1 s2 s3 s4s s5 FV
  generalize fltV p = V at FX ⊢
  obtain ⟨s0, hs0⟩ : ∃ q, q = tx p.nm := ⟨_, rfl⟩
  obtain ⟨s4, hs4⟩ : ∃ q, q = tx p.grd := ⟨_, rfl⟩
  obtain ⟨n1, hn1⟩ : ∃ q, q = p.ins.length := ⟨_, rfl⟩
  obtain ⟨n2, hn2⟩ : ∃ q, q = p.vrs.length := ⟨_, rfl⟩
  obtain ⟨n3, hn3⟩ : ∃ q, q = p.outs.length := ⟨_, rfl⟩
  obtain ⟨n4, hn4⟩ : ∃ q, q = p.lns.length := ⟨_, rfl⟩
  simp only [← hs0, ← hs4, ← hn1, ← hn2, ← hn3, ← hn4] at AL RD RG EG I2 I3 P4 HN4 HT4 HF4 HZ4 HM4 HA4 HM6 HA6 FX B40 b1 b2 b3 b4 b5 b6 ⊢
  generalize ru1 p = d1 at HR1 FX
  generalize ru2 p = d2 at HR2 FX
  generalize ru3 p = d3 at HR3 FX
  generalize ru4 p = d4 at HR4 FX
  generalize ru6 p = d6 at HR6 FX
  generalize decide (p.grd = []) = g0 at EG HR2
  generalize decide (p.grd ∈ p.ins ++ p.vrs) = g1 at RG HR2
  generalize p.ins ++ p.vrs ++ p.outs = DD at AL HR1
  generalize p.ins ++ p.vrs = IV at *
  have HVO : Hid (∀ x, x ∈ p.vrs ++ p.outs ↔ (0 ≤ ixV p.vrs x ∨ 0 ≤ ixV p.outs x)) := Lib.hid (fun x => by rw [List.mem_append, ixV_mem, ixV_mem])
  generalize p.vrs ++ p.outs = VO at *
  generalize p.vrs = VR at *
  generalize p.outs = OU at *
  generalize p.lns = M at *
  clear hs0 hs4 hn1 hn2 hn3 hn4
  have q0 : (w.alloc (.cells #[.string s0, .slice a1 n1 c1, .slice a2 n2 c2, .slice a3 n3 c3, .string s4, .slice a4 n4 c4] 27)).cell? ⟨w.heap.size, 0, none⟩ = some (.string s0) := by rw [cell_of_row _ _ 0 _ _ (0, 0) (heap_alloc_new w _)]; rfl
  have q1 : (w.alloc (.cells #[.string s0, .slice a1 n1 c1, .slice a2 n2 c2, .slice a3 n3 c3, .string s4, .slice a4 n4 c4] 27)).cell? ⟨w.heap.size, 1, none⟩ = some (.slice a1 n1 c1) := by rw [cell_of_row _ _ 1 _ _ (0, 0) (heap_alloc_new w _)]; rfl
  have q2 : (w.alloc (.cells #[.string s0, .slice a1 n1 c1, .slice a2 n2 c2, .slice a3 n3 c3, .string s4, .slice a4 n4 c4] 27)).cell? ⟨w.heap.size, 2, none⟩ = some (.slice a2 n2 c2) := by rw [cell_of_row _ _ 2 _ _ (0, 0) (heap_alloc_new w _)]; rfl
  have q3 : (w.alloc (.cells #[.string s0, .slice a1 n1 c1, .slice a2 n2 c2, .slice a3 n3 c3, .string s4, .slice a4 n4 c4] 27)).cell? ⟨w.heap.size, 3, none⟩ = some (.slice a3 n3 c3) := by rw [cell_of_row _ _ 3 _ _ (0, 0) (heap_alloc_new w _)]; rfl
  have q4 : (w.alloc (.cells #[.string s0, .slice a1 n1 c1, .slice a2 n2 c2, .slice a3 n3 c3, .string s4, .slice a4 n4 c4] 27)).cell? ⟨w.heap.size, 4, none⟩ = some (.string s4) := by rw [cell_of_row _ _ 4 _ _ (0, 0) (heap_alloc_new w _)]; rfl
  have q5 : (w.alloc (.cells #[.string s0, .slice a1 n1 c1, .slice a2 n2 c2, .slice a3 n3 c3, .string s4, .slice a4 n4 c4] 27)).cell? ⟨w.heap.size, 5, none⟩ = some (.slice a4 n4 c4) := by rw [cell_of_row _ _ 5 _ _ (0, 0) (heap_alloc_new w _)]; rfl
  have hW0 : w.heap.size < (w.alloc (.cells #[.string s0, .slice a1 n1 c1, .slice a2 n2 c2, .slice a3 n3 c3, .string s4, .slice a4 n4 c4] 27)).heap.size := by rw [World.size_alloc]; exact Nat.lt_succ_self _
  have C0 : Hid (∀ W', Later (w.alloc (.cells #[.string s0, .slice a1 n1 c1, .slice a2 n2 c2, .slice a3 n3 c3, .string s4, .slice a4 n4 c4] 27)) W' → W'.cell? ⟨w.heap.size, 0, none⟩ = some (.string s0) ∧ W'.cell? ⟨w.heap.size, 1, none⟩ = some (.slice a1 n1 c1) ∧ W'.cell? ⟨w.heap.size, 2, none⟩ = some (.slice a2 n2 c2) ∧ W'.cell? ⟨w.heap.size, 3, none⟩ = some (.slice a3 n3 c3) ∧ W'.cell? ⟨w.heap.size, 4, none⟩ = some (.string s4) ∧ W'.cell? ⟨w.heap.size, 5, none⟩ = some (.slice a4 n4 c4)) := Lib.hid (fun W' q => ⟨by rw [q.cell (p := ⟨w.heap.size, 0, none⟩) hW0]; exact q0, by rw [q.cell (p := ⟨w.heap.size, 1, none⟩) hW0]; exact q1, by rw [q.cell (p := ⟨w.heap.size, 2, none⟩) hW0]; exact q2, by rw [q.cell (p := ⟨w.heap.size, 3, none⟩) hW0]; exact q3, by rw [q.cell (p := ⟨w.heap.size, 4, none⟩) hW0]; exact q4, by rw [q.cell (p := ⟨w.heap.size, 5, none⟩) hW0]; exact q5⟩)
  have A0 : Hid (Later w (w.alloc (.cells #[.string s0, .slice a1 n1 c1, .slice a2 n2 c2, .slice a3 n3 c3, .string s4, .slice a4 n4 c4] 27))) := Lib.hid ((Later.refl _).alloc _)
  clear hW0
  have hzW : (w.alloc (.cells #[.string s0, .slice a1 n1 c1, .slice a2 n2 c2, .slice a3 n3 c3, .string s4, .slice a4 n4 c4] 27)).heap.size = w.heap.size + 1 := World.size_alloc _ _
  go_enter Tryd.func52, Tryd.ntmps52
  go_wp2_with fail
  generalize (w.alloc (.cells #[.string s0, .slice a1 n1 c1, .slice a2 n2 c2, .slice a3 n3 c3, .string s4, .slice a4 n4 c4] 27)) = W0 at C0 A0 hzW q0 q1 q2 q3 q4 q5 ⊢
  have HZW := Lib.hid hzW
  clear hzW
  refine (AL.out _ A0.out).mono ?_
  rintro e w1 ⟨g, n, c, rfl, hnc, hcm, hs, hb⟩
  have L1 := Lib.hid (show Later W0 w1 from hb)
  have TW := Lib.hid (s_Twice (some ⟨g, 0, none⟩) n c DD w1 hs hnc hcm ⟨g, rfl⟩)
  generalize decide DD.Nodup = dd at TW HR1
  obtain rfl : d1 = dd := HR1.out
  clear hs hb HR1 q0 q1 q2 q3 q4 q5
  go_wp2_with fail
  refine TW.out.mono ?_
  rintro e w2 ⟨rfl, hb⟩
  have L2 := Lib.hid (Later.trans L1.out hb)
  clear hb
  obtain ⟨q0, q1, q2, q3, q4, q5⟩ := C0.out _ L2.out
  cases d1
  · have HV : Hid (V = 1) := Lib.hid (FX.out.1 rfl)
    go_wp2_with fail
    all_goals
      go_ret
      exact ⟨by rw [HV.out]; rfl, A0.out.trans L2.out⟩
  have FX := Lib.hid FX.out.2
  cases g0
  · cases g1
    · have HV : Hid (V = 2) := Lib.hid (FX.out.1 rfl HR2.out)
      go_wp2_with (go_at_call 100; refine (RG.out _ (A0.out.trans L2.out)).mono ?_; rintro e w3 ⟨rfl, hb⟩; have L3 := Lib.hid (Later.trans L2.out hb); obtain ⟨q0, q1, q2, q3, q4, q5⟩ := C0.out _ L3.out; clear hb)
      all_goals
        go_ret
        exact ⟨by rw [HV.out]; rfl, A0.out.trans L3.out⟩
    · have FX := Lib.hid (FX.out.2)
      obtain rfl : d2 = true := HR2.out
      have FX := Lib.hid (And.intro (FX.out.1 rfl rfl) (And.intro (FX.out.2.1 rfl rfl) (And.intro FX.out.2.2.1 FX.out.2.2.2)))
      go_wp2_with (go_at_call 100; refine (RG.out _ (A0.out.trans L2.out)).mono ?_; rintro e w3 ⟨rfl, hb⟩; have L3 := Lib.hid (Later.trans L2.out hb); obtain ⟨q0, q1, q2, q3, q4, q5⟩ := C0.out _ L3.out; clear hb)
      go_loopw [3, 4] (fun s i wr => ∃ k : Nat, k ≤ n4 ∧ i = .int .i64 k ∧ OwnT wr W0.heap.size s ((tgs M).take k) ∧ Later W0 wr ∧ Hid (∀ j, j < k → ltx M j ∈ VO)) (fun _ i _ => n4 - (intOf i).toNat)
      case atStart => exact ⟨0, by omega, rfl, ownT_newN w3 W0.heap.size L3.out.size, L3.out.alloc _, Lib.hid (by intro j h; omega)⟩
      case round =>
        clear q0 q1 q2 q3 q4 q5
        obtain ⟨k, hk, rfl, ho, hb, HI⟩ := hrel
        have L3 := Lib.hid hb
        have O3 := Lib.hid ho
        obtain ⟨q0, q1, q2, q3, q4, q5⟩ := C0.out _ hb
        clear ho
        by_cases hlt : k < n4
        · obtain ⟨b, off, ta, tc, rfl, c0, _, _⟩ := (P4.out.later (A0.out.trans hb)).2.2.1 k hlt
          have HTK := Lib.hid (HT4.out k hlt)
          have hzk := HZ4.out k hk
          have HVK := Lib.hid (HVO.out (ltx M k))
          have J2 := Lib.hid (I2.out (ltx M k) _ (A0.out.trans hb))
          have J3 := Lib.hid (I3.out (ltx M k) _ (A0.out.trans hb))
          have HMK := Lib.hid (HM4.out k hlt)
          have HXK : Hid (ltx M k ∈ VO → ∀ j, j < k + 1 → ltx M j ∈ VO) := Lib.hid (fun h j hj => by
            rcases Nat.lt_or_ge j k with h1 | h1
            · exact HI.out j h1
            · obtain rfl : j = k := by omega
              exact h)
          generalize ixV VR (ltx M k) = r2 at HVK J2
          generalize ixV OU (ltx M k) = r3 at HVK J3
          generalize ltx M k = y at c0 HTK HVK J2 J3 HMK HXK
          obtain ⟨Y, hY⟩ : ∃ Y, Y = tx y := ⟨_, rfl⟩
          rw [← hY] at c0 J2 J3
          have HY := Lib.hid hY
          clear hY hb
          by_cases hin : 0 ≤ r2 ∨ 0 ≤ r3
          · have HX2 := Lib.hid (HXK.out (HVK.out.2 hin))
            rcases (show 0 ≤ r2 ∨ (r2 < 0 ∧ 0 ≤ r3) by omega) with h2 | ⟨h2, h3⟩
            · have e2 : decide (r2 < 0) = false := decide_eq_false (by omega)
              clear hin
              go_wp2_with (first
                | (go_at_call_of 72 a2; refine J2.out.mono ?_; rintro e w' ⟨rfl, rfl⟩)
                | (go_at_call_of 72 a3; refine J3.out.mono ?_; rintro e w' ⟨rfl, rfl⟩)
                | (at_builtin; go_must (rw [HY.out]; refine app1T rfl _ _ rfl W0.heap.size _ _ _ ((tgs M).take k) y (O3.out.later (by repeat (first | (with_reducible exact Later.refl _) | (with_reducible exact Hid.out (by assumption)) | (with_reducible refine Later.alloc ?_ _) | (with_reducible refine Later.setCell ?_ (by simp; omega) _) | (with_reducible refine Later.setCell ?_ (by simp) _) | (with_reducible refine Later.drewN ?_ _) | (with_reducible refine Later.drew ?_) | (with_reducible refine Later.trans ?_ (Hid.out (by assumption)))))) rfl (by first | rfl | (simp only [World.heap_drewN, World.size_alloc]; rfl)) (by omega) (Later.size (by repeat (first | (with_reducible exact Later.refl _) | (with_reducible exact Hid.out (by assumption)) | (with_reducible refine Later.alloc ?_ _) | (with_reducible refine Later.setCell ?_ (by simp; omega) _) | (with_reducible refine Later.setCell ?_ (by simp) _) | (with_reducible refine Later.drewN ?_ _) | (with_reducible refine Later.drew ?_) | (with_reducible refine Later.trans ?_ (Hid.out (by assumption)))))) ?_; intro v6 w6 ho hgr)))
              have O6 := Lib.hid ho
              rw [← HTK.out] at O6
              have L6 : Hid (Later W0 w6) := Lib.hid (Below.grown (show Later W0 _ from (by repeat (first | (with_reducible exact Later.refl _) | (with_reducible exact Hid.out (by assumption)) | (with_reducible refine Later.alloc ?_ _) | (with_reducible refine Later.setCell ?_ (by simp; omega) _) | (with_reducible refine Later.setCell ?_ (by simp) _) | (with_reducible refine Later.drewN ?_ _) | (with_reducible refine Later.drew ?_) | (with_reducible refine Later.trans ?_ (Hid.out (by assumption)))))) hgr (Later.size (by repeat (first | (with_reducible exact Later.refl _) | (with_reducible exact Hid.out (by assumption)) | (with_reducible refine Later.alloc ?_ _) | (with_reducible refine Later.setCell ?_ (by simp; omega) _) | (with_reducible refine Later.setCell ?_ (by simp) _) | (with_reducible refine Later.drewN ?_ _) | (with_reducible refine Later.drew ?_) | (with_reducible refine Later.trans ?_ (Hid.out (by assumption)))))) (fun j hj => (O3.out.lt j hj).1))
              clear ho hgr
              go_roundw
              case rel => exact ⟨k + 1, by omega, by go_num, O6.out, L6.out, HX2⟩
              case measure => simp [intOf]; omega
            · have e2 : decide (r2 < 0) = true := decide_eq_true h2
              have e3 : decide (r3 < 0) = false := decide_eq_false (by omega)
              clear hin
              go_wp2_with (first
                | (go_at_call_of 72 a2; refine J2.out.mono ?_; rintro e w' ⟨rfl, rfl⟩)
                | (go_at_call_of 72 a3; refine J3.out.mono ?_; rintro e w' ⟨rfl, rfl⟩)
                | (at_builtin; go_must (rw [HY.out]; refine app1T rfl _ _ rfl W0.heap.size _ _ _ ((tgs M).take k) y (O3.out.later (by repeat (first | (with_reducible exact Later.refl _) | (with_reducible exact Hid.out (by assumption)) | (with_reducible refine Later.alloc ?_ _) | (with_reducible refine Later.setCell ?_ (by simp; omega) _) | (with_reducible refine Later.setCell ?_ (by simp) _) | (with_reducible refine Later.drewN ?_ _) | (with_reducible refine Later.drew ?_) | (with_reducible refine Later.trans ?_ (Hid.out (by assumption)))))) rfl (by first | rfl | (simp only [World.heap_drewN, World.size_alloc]; rfl)) (by omega) (Later.size (by repeat (first | (with_reducible exact Later.refl _) | (with_reducible exact Hid.out (by assumption)) | (with_reducible refine Later.alloc ?_ _) | (with_reducible refine Later.setCell ?_ (by simp; omega) _) | (with_reducible refine Later.setCell ?_ (by simp) _) | (with_reducible refine Later.drewN ?_ _) | (with_reducible refine Later.drew ?_) | (with_reducible refine Later.trans ?_ (Hid.out (by assumption)))))) ?_; intro v6 w6 ho hgr)))
              have O6 := Lib.hid ho
              rw [← HTK.out] at O6
              have L6 : Hid (Later W0 w6) := Lib.hid (Below.grown (show Later W0 _ from (by repeat (first | (with_reducible exact Later.refl _) | (with_reducible exact Hid.out (by assumption)) | (with_reducible refine Later.alloc ?_ _) | (with_reducible refine Later.setCell ?_ (by simp; omega) _) | (with_reducible refine Later.setCell ?_ (by simp) _) | (with_reducible refine Later.drewN ?_ _) | (with_reducible refine Later.drew ?_) | (with_reducible refine Later.trans ?_ (Hid.out (by assumption)))))) hgr (Later.size (by repeat (first | (with_reducible exact Later.refl _) | (with_reducible exact Hid.out (by assumption)) | (with_reducible refine Later.alloc ?_ _) | (with_reducible refine Later.setCell ?_ (by simp; omega) _) | (with_reducible refine Later.setCell ?_ (by simp) _) | (with_reducible refine Later.drewN ?_ _) | (with_reducible refine Later.drew ?_) | (with_reducible refine Later.trans ?_ (Hid.out (by assumption)))))) (fun j hj => (O3.out.lt j hj).1))
              clear ho hgr
              go_roundw
              case rel => exact ⟨k + 1, by omega, by go_num, O6.out, L6.out, HX2⟩
              case measure => simp [intOf]; omega
          · have HD3 : Hid (d3 = false) := Lib.hid (by rw [HR3.out]; exact allIn_no VO (tgs M) y HMK.out (fun h => hin (HVK.out.1 h)))
            have HV : Hid (V = 3) := Lib.hid (FX.out.1 HD3.out)
            have e2 : decide (r2 < 0) = true := decide_eq_true (by omega)
            have e3 : decide (r3 < 0) = true := decide_eq_true (by omega)
            clear hin
            go_wp2_with (first
              | (go_at_call_of 72 a2; refine J2.out.mono ?_; rintro e w' ⟨rfl, rfl⟩)
              | (go_at_call_of 72 a3; refine J3.out.mono ?_; rintro e w' ⟨rfl, rfl⟩))
            all_goals
              go_ret
              exact ⟨by rw [HV.out]; rfl, A0.out.trans L3.out⟩
        · obtain rfl : k = n4 := by omega
          have HD3 : Hid (d3 = true) := Lib.hid (by rw [HR3.out]; exact HA4.out HI.out)
          obtain rfl : d3 = true := HD3.out
          have FX := Lib.hid FX.out.2
          have O4 := Lib.hid O3.out
          rw [HF4.out] at O4
          obtain ⟨g4, c4', rfl, hnc4, hcm4, hs4'⟩ := O4.out.rowC HNE.out HSH.out HN4.out
          have TW := Lib.hid (s_Twice (some ⟨g4, 0, none⟩) k c4' (tgs M) _ hs4' hnc4 hcm4 ⟨g4, rfl⟩)
          generalize decide (tgs M).Nodup = dd at TW HR4
          obtain rfl : d4 = dd := HR4.out
          clear hs4' hb HR4 O3 O4 HI HZ4 HT4
          go_wp2_with fail
          refine TW.out.mono ?_
          rintro e w7 ⟨rfl, hb⟩
          have L7 := Lib.hid (Later.trans L3.out hb)
          obtain ⟨q0, q1, q2, q3, q4, q5⟩ := C0.out _ L7.out
          clear hb
          cases d4
          · have HV : Hid (V = 4) := Lib.hid (FX.out.1 (by first | rfl | trivial) (by first | rfl | trivial))
            go_wp2_with fail
            all_goals
              go_ret
              exact ⟨by rw [HV.out]; rfl, A0.out.trans L7.out⟩
          have FX := Lib.hid FX.out.2
          by_cases h5 : k < n2 + n3
          · have HV : Hid (V = 5) := Lib.hid (FX.out.1 (by first | rfl | trivial) (by first | rfl | trivial) (by first | rfl | trivial) (by first | rfl | trivial) h5)
            have e5 : decide ((k : Int) < (n2 : Int) + (n3 : Int)) = true := decide_eq_true (by omega)
            go_wp2_with fail
            all_goals
              go_ret
              exact ⟨by rw [HV.out]; rfl, A0.out.trans L7.out⟩
          have HV6 : Hid (d6 = false → V = 6) := Lib.hid (FX.out.2.1 (by first | rfl | trivial) (by first | rfl | trivial) (by first | rfl | trivial) (by first | rfl | trivial) h5)
          have HV0 : Hid (d6 = true → V = 0) := Lib.hid (FX.out.2.2 (by first | rfl | trivial) (by first | rfl | trivial) (by first | rfl | trivial) (by first | rfl | trivial) h5)
          have e5 : decide ((k : Int) < (n2 : Int) + (n3 : Int)) = false := decide_eq_false (by omega)
          clear h5 TW hnc4 hcm4
          go_wp2_with fail
          clear e5
          go_loopw [6] (fun i w8 => ∃ u : Nat, u ≤ k ∧ i = .int .i64 u ∧ Later W0 w8 ∧ Hid (∀ j, j < u → ∀ x ∈ nmT (lrx M j), x ∈ IV)) (fun i _ => k - (intOf i).toNat)
          case atStart => exact ⟨0, by omega, rfl, L7.out, Lib.hid (by intro j h; omega)⟩
          case round =>
            clear q0 q1 q2 q3 q4 q5
            obtain ⟨u, hu, rfl, hb, HI⟩ := hrel
            have L8 := Lib.hid hb
            obtain ⟨q0, q1, q2, q3, q4, q5⟩ := C0.out _ hb
            by_cases hltu : u < k
            · have h40 := B40.out u hltu
              obtain ⟨b, off, ta, tc, rfl, c00, c01, c2⟩ := P4.out.2.2.1 u hltu
              have HC0 : Hid (∀ W', Later W0 W' → W'.cell? ⟨b, off + u * 2 + 1, none⟩ = some (.slice ta (lrx M u).length tc)) := Lib.hid (fun W' h => by rw [(A0.out.trans h).cell (p := ⟨b, off + u * 2 + 1, none⟩) (cell_lt c01)]; exact c01)
              have HS := Lib.hid c2
              have HMU := Lib.hid (HM6.out u hltu)
              have HXU : Hid ((∀ x ∈ nmT (lrx M u), x ∈ IV) → ∀ j, j < u + 1 → ∀ x ∈ nmT (lrx M j), x ∈ IV) := Lib.hid (fun h j hj => by
                rcases Nat.lt_or_ge j u with h1 | h1
                · exact HI.out j h1
                · obtain rfl : j = u := by omega
                  exact h)
              generalize lrx M u = L at *
              have HJ := Lib.hid (fun j h => nmT_take L j h)
              have HLF : Hid (nmT (L.take L.length) = nmT L) := Lib.hid (by rw [List.take_length])
              have HSUB : Hid (∀ j, j < L.length → rkx L j = 1 → rsx L j ∈ nmT L) := Lib.hid (fun j hj hk => by
                unfold nmT
                exact List.mem_map.2 ⟨_, List.mem_filter.2 ⟨rk_mem L j hj, by simp [hk]⟩, rfl⟩)
              obtain ⟨q, hq⟩ : ∃ q, q = L.length := ⟨_, rfl⟩
              rw [← hq] at HC0 h40 HS HJ HLF HSUB
              clear c00 c01 c2 hb hq
              go_wp2_with fail
              go_loopw [7] (fun i w9 => ∃ j : Nat, j ≤ q ∧ i = .int .i64 j ∧ Later W0 w9 ∧ Hid (∀ x ∈ nmT (L.take j), x ∈ IV)) (fun i _ => q - (intOf i).toNat)
              case atStart => exact ⟨0, by omega, rfl, L8.out, Lib.hid (by intro x h; simp [nmT] at h)⟩
              case round =>
                clear q0 q1 q2 q3 q4 q5
                obtain ⟨j, hj, rfl, hb, HK⟩ := hrel
                have L9 := Lib.hid hb
                obtain ⟨q0, q1, q2, q3, q4, q5⟩ := C0.out _ hb
                have cT := HC0.out _ hb
                by_cases hltj : j < q
                · obtain ⟨b2, off2, rfl, d0, d1', d2'⟩ := (HS.out.later (A0.out.trans hb)).2.2.1 j hltj
                  have HJ2 := Lib.hid (HJ.out j hltj)
                  have HSU := Lib.hid (HSUB.out j hltj)
                  have RY := Lib.hid (RD.out (rsx L j))
                  obtain ⟨y, hy⟩ : ∃ y, y = rsx L j := ⟨_, rfl⟩
                  rw [← hy] at d1' HJ2 HSU RY
                  obtain ⟨Y, hY⟩ : ∃ Y, Y = tx y := ⟨_, rfl⟩
                  rw [← hY] at d1' RY
                  have HYI : Hid (decide (y ∈ IV) = decide (y ∈ IV)) := Lib.hid rfl
                  obtain ⟨gy, hgy⟩ : ∃ gy, gy = decide (y ∈ IV) := ⟨_, rfl⟩
                  rw [← hgy] at RY
                  have HGY := Lib.hid hgy
                  generalize rkx L j = kd at d0 HJ2 HSU
                  generalize rnx L j = nb at d2'
                  have hzw : w.heap.size < _ := Nat.lt_of_lt_of_le (show w.heap.size < W0.heap.size by rw [HZW.out]; exact Nat.lt_succ_self _) L9.out.size
                  clear hy hY hb hgy HYI
                  by_cases he : kd = 1
                  · subst he
                    have HJ3 : Hid (nmT (L.take (j + 1)) = nmT (L.take j) ++ [y]) := Lib.hid (by have := HJ2.out; rw [if_pos rfl] at this; exact this)
                    cases gy
                    · have HV : Hid (V = 6) := Lib.hid (HV6.out (by rw [HR6.out]; exact allIn_no IV (nmV M) y (HMU.out y (HSU.out rfl)) (by have := HGY.out; intro h; rw [decide_eq_true h] at this; cases this)))
                      go_wp2_with (go_at_call 100; refine (RY.out _ (A0.out.trans (by repeat (first | (with_reducible exact Later.refl _) | (with_reducible exact Hid.out (by assumption)) | (with_reducible refine Later.alloc ?_ _) | (with_reducible refine Later.setCell ?_ (by simp; omega) _) | (with_reducible refine Later.setCell ?_ (by simp) _) | (with_reducible refine Later.drewN ?_ _) | (with_reducible refine Later.drew ?_) | (with_reducible refine Later.trans ?_ (Hid.out (by assumption))))))).mono ?_; rintro e w' ⟨rfl, hb⟩; have H10 := Lib.hid hb; clear hb)
                      all_goals
                        go_ret
                        exact ⟨by rw [HV.out]; rfl, A0.out.trans (by repeat (first | (with_reducible exact Later.refl _) | (with_reducible exact Hid.out (by assumption)) | (with_reducible refine Later.alloc ?_ _) | (with_reducible refine Later.setCell ?_ (by simp; omega) _) | (with_reducible refine Later.setCell ?_ (by simp) _) | (with_reducible refine Later.drewN ?_ _) | (with_reducible refine Later.drew ?_) | (with_reducible refine Later.trans ?_ (Hid.out (by assumption)))))⟩
                    · have HK2 : Hid (∀ x ∈ nmT (L.take (j + 1)), x ∈ IV) := Lib.hid (by
                        rw [HJ3.out]
                        intro x hx
                        rcases List.mem_append.1 hx with hx | hx
                        · exact HK.out x hx
                        · simp at hx; rw [hx]
                          exact of_decide_eq_true HGY.out.symm)
                      go_wp2_with (go_at_call 100; refine (RY.out _ (A0.out.trans (by repeat (first | (with_reducible exact Later.refl _) | (with_reducible exact Hid.out (by assumption)) | (with_reducible refine Later.alloc ?_ _) | (with_reducible refine Later.setCell ?_ (by simp; omega) _) | (with_reducible refine Later.setCell ?_ (by simp) _) | (with_reducible refine Later.drewN ?_ _) | (with_reducible refine Later.drew ?_) | (with_reducible refine Later.trans ?_ (Hid.out (by assumption))))))).mono ?_; rintro e w' ⟨rfl, hb⟩; have H10 := Lib.hid hb; clear hb)
                      go_roundw
                      case rel => exact ⟨j + 1, by omega, by go_num, (by repeat (first | (with_reducible exact Later.refl _) | (with_reducible exact Hid.out (by assumption)) | (with_reducible refine Later.alloc ?_ _) | (with_reducible refine Later.setCell ?_ (by simp; omega) _) | (with_reducible refine Later.setCell ?_ (by simp) _) | (with_reducible refine Later.drewN ?_ _) | (with_reducible refine Later.drew ?_) | (with_reducible refine Later.trans ?_ (Hid.out (by assumption))))), HK2⟩
                      case measure => simp [intOf]; omega
                  · have HJ3 : Hid (nmT (L.take (j + 1)) = nmT (L.take j)) := Lib.hid (by have := HJ2.out; rw [if_neg he] at this; exact this)
                    have hne : (kd == 1) = false := by simpa using he
                    clear he
                    go_wp2_with fail
                    go_roundw
                    case rel => exact ⟨j + 1, by omega, by go_num, (by repeat (first | (with_reducible exact Later.refl _) | (with_reducible exact Hid.out (by assumption)) | (with_reducible refine Later.alloc ?_ _) | (with_reducible refine Later.setCell ?_ (by simp; omega) _) | (with_reducible refine Later.setCell ?_ (by simp) _) | (with_reducible refine Later.drewN ?_ _) | (with_reducible refine Later.drew ?_) | (with_reducible refine Later.trans ?_ (Hid.out (by assumption))))), Lib.hid (by rw [HJ3.out]; exact HK.out)⟩
                    case measure => simp [intOf]; omega
                · obtain rfl : j = q := by omega
                  have HI2 := Lib.hid (HXU.out (by have := HK.out; rw [HLF.out] at this; exact this))
                  clear hb
                  go_wp2_with fail
                  go_roundw
                  case rel => exact ⟨u + 1, by omega, by go_num, L9.out, HI2⟩
                  case measure => simp [intOf]; omega
            · obtain rfl : u = k := by omega
              have HV : Hid (V = 0) := Lib.hid (HV0.out (by rw [HR6.out]; exact HA6.out HI.out))
              clear hb
              go_wp2_with fail
              all_goals
                go_ret
                exact ⟨by rw [HV.out]; rfl, A0.out.trans L8.out⟩
  · have FX := Lib.hid (FX.out.2)
    obtain rfl : d2 = true := HR2.out
    have FX := Lib.hid (And.intro (FX.out.1 rfl rfl) (And.intro (FX.out.2.1 rfl rfl) (And.intro FX.out.2.2.1 FX.out.2.2.2)))
    go_wp2_with fail
    go_loopw [3, 4] (fun s i wr => ∃ k : Nat, k ≤ n4 ∧ i = .int .i64 k ∧ OwnT wr W0.heap.size s ((tgs M).take k) ∧ Later W0 wr ∧ Hid (∀ j, j < k → ltx M j ∈ VO)) (fun _ i _ => n4 - (intOf i).toNat)
    case atStart => exact ⟨0, by omega, rfl, ownT_newN w2 W0.heap.size L2.out.size, L2.out.alloc _, Lib.hid (by intro j h; omega)⟩
    case round =>
      clear q0 q1 q2 q3 q4 q5
      obtain ⟨k, hk, rfl, ho, hb, HI⟩ := hrel
      have L3 := Lib.hid hb
      have O3 := Lib.hid ho
      obtain ⟨q0, q1, q2, q3, q4, q5⟩ := C0.out _ hb
      clear ho
      by_cases hlt : k < n4
      · obtain ⟨b, off, ta, tc, rfl, c0, _, _⟩ := (P4.out.later (A0.out.trans hb)).2.2.1 k hlt
        have HTK := Lib.hid (HT4.out k hlt)
        have hzk := HZ4.out k hk
        have HVK := Lib.hid (HVO.out (ltx M k))
        have J2 := Lib.hid (I2.out (ltx M k) _ (A0.out.trans hb))
        have J3 := Lib.hid (I3.out (ltx M k) _ (A0.out.trans hb))
        have HMK := Lib.hid (HM4.out k hlt)
        have HXK : Hid (ltx M k ∈ VO → ∀ j, j < k + 1 → ltx M j ∈ VO) := Lib.hid (fun h j hj => by
          rcases Nat.lt_or_ge j k with h1 | h1
          · exact HI.out j h1
          · obtain rfl : j = k := by omega
            exact h)
        generalize ixV VR (ltx M k) = r2 at HVK J2
        generalize ixV OU (ltx M k) = r3 at HVK J3
        generalize ltx M k = y at c0 HTK HVK J2 J3 HMK HXK
        obtain ⟨Y, hY⟩ : ∃ Y, Y = tx y := ⟨_, rfl⟩
        rw [← hY] at c0 J2 J3
        have HY := Lib.hid hY
        clear hY hb
        by_cases hin : 0 ≤ r2 ∨ 0 ≤ r3
        · have HX2 := Lib.hid (HXK.out (HVK.out.2 hin))
          rcases (show 0 ≤ r2 ∨ (r2 < 0 ∧ 0 ≤ r3) by omega) with h2 | ⟨h2, h3⟩
          · have e2 : decide (r2 < 0) = false := decide_eq_false (by omega)
            clear hin
            go_wp2_with (first
              | (go_at_call_of 72 a2; refine J2.out.mono ?_; rintro e w' ⟨rfl, rfl⟩)
              | (go_at_call_of 72 a3; refine J3.out.mono ?_; rintro e w' ⟨rfl, rfl⟩)
              | (at_builtin; go_must (rw [HY.out]; refine app1T rfl _ _ rfl W0.heap.size _ _ _ ((tgs M).take k) y (O3.out.later (by repeat (first | (with_reducible exact Later.refl _) | (with_reducible exact Hid.out (by assumption)) | (with_reducible refine Later.alloc ?_ _) | (with_reducible refine Later.setCell ?_ (by simp; omega) _) | (with_reducible refine Later.setCell ?_ (by simp) _) | (with_reducible refine Later.drewN ?_ _) | (with_reducible refine Later.drew ?_) | (with_reducible refine Later.trans ?_ (Hid.out (by assumption)))))) rfl (by first | rfl | (simp only [World.heap_drewN, World.size_alloc]; rfl)) (by omega) (Later.size (by repeat (first | (with_reducible exact Later.refl _) | (with_reducible exact Hid.out (by assumption)) | (with_reducible refine Later.alloc ?_ _) | (with_reducible refine Later.setCell ?_ (by simp; omega) _) | (with_reducible refine Later.setCell ?_ (by simp) _) | (with_reducible refine Later.drewN ?_ _) | (with_reducible refine Later.drew ?_) | (with_reducible refine Later.trans ?_ (Hid.out (by assumption)))))) ?_; intro v6 w6 ho hgr)))
            have O6 := Lib.hid ho
            rw [← HTK.out] at O6
            have L6 : Hid (Later W0 w6) := Lib.hid (Below.grown (show Later W0 _ from (by repeat (first | (with_reducible exact Later.refl _) | (with_reducible exact Hid.out (by assumption)) | (with_reducible refine Later.alloc ?_ _) | (with_reducible refine Later.setCell ?_ (by simp; omega) _) | (with_reducible refine Later.setCell ?_ (by simp) _) | (with_reducible refine Later.drewN ?_ _) | (with_reducible refine Later.drew ?_) | (with_reducible refine Later.trans ?_ (Hid.out (by assumption)))))) hgr (Later.size (by repeat (first | (with_reducible exact Later.refl _) | (with_reducible exact Hid.out (by assumption)) | (with_reducible refine Later.alloc ?_ _) | (with_reducible refine Later.setCell ?_ (by simp; omega) _) | (with_reducible refine Later.setCell ?_ (by simp) _) | (with_reducible refine Later.drewN ?_ _) | (with_reducible refine Later.drew ?_) | (with_reducible refine Later.trans ?_ (Hid.out (by assumption)))))) (fun j hj => (O3.out.lt j hj).1))
            clear ho hgr
            go_roundw
            case rel => exact ⟨k + 1, by omega, by go_num, O6.out, L6.out, HX2⟩
            case measure => simp [intOf]; omega
          · have e2 : decide (r2 < 0) = true := decide_eq_true h2
            have e3 : decide (r3 < 0) = false := decide_eq_false (by omega)
            clear hin
            go_wp2_with (first
              | (go_at_call_of 72 a2; refine J2.out.mono ?_; rintro e w' ⟨rfl, rfl⟩)
              | (go_at_call_of 72 a3; refine J3.out.mono ?_; rintro e w' ⟨rfl, rfl⟩)
              | (at_builtin; go_must (rw [HY.out]; refine app1T rfl _ _ rfl W0.heap.size _ _ _ ((tgs M).take k) y (O3.out.later (by repeat (first | (with_reducible exact Later.refl _) | (with_reducible exact Hid.out (by assumption)) | (with_reducible refine Later.alloc ?_ _) | (with_reducible refine Later.setCell ?_ (by simp; omega) _) | (with_reducible refine Later.setCell ?_ (by simp) _) | (with_reducible refine Later.drewN ?_ _) | (with_reducible refine Later.drew ?_) | (with_reducible refine Later.trans ?_ (Hid.out (by assumption)))))) rfl (by first | rfl | (simp only [World.heap_drewN, World.size_alloc]; rfl)) (by omega) (Later.size (by repeat (first | (with_reducible exact Later.refl _) | (with_reducible exact Hid.out (by assumption)) | (with_reducible refine Later.alloc ?_ _) | (with_reducible refine Later.setCell ?_ (by simp; omega) _) | (with_reducible refine Later.setCell ?_ (by simp) _) | (with_reducible refine Later.drewN ?_ _) | (with_reducible refine Later.drew ?_) | (with_reducible refine Later.trans ?_ (Hid.out (by assumption)))))) ?_; intro v6 w6 ho hgr)))
            have O6 := Lib.hid ho
            rw [← HTK.out] at O6
            have L6 : Hid (Later W0 w6) := Lib.hid (Below.grown (show Later W0 _ from (by repeat (first | (with_reducible exact Later.refl _) | (with_reducible exact Hid.out (by assumption)) | (with_reducible refine Later.alloc ?_ _) | (with_reducible refine Later.setCell ?_ (by simp; omega) _) | (with_reducible refine Later.setCell ?_ (by simp) _) | (with_reducible refine Later.drewN ?_ _) | (with_reducible refine Later.drew ?_) | (with_reducible refine Later.trans ?_ (Hid.out (by assumption)))))) hgr (Later.size (by repeat (first | (with_reducible exact Later.refl _) | (with_reducible exact Hid.out (by assumption)) | (with_reducible refine Later.alloc ?_ _) | (with_reducible refine Later.setCell ?_ (by simp; omega) _) | (with_reducible refine Later.setCell ?_ (by simp) _) | (with_reducible refine Later.drewN ?_ _) | (with_reducible refine Later.drew ?_) | (with_reducible refine Later.trans ?_ (Hid.out (by assumption)))))) (fun j hj => (O3.out.lt j hj).1))
            clear ho hgr
            go_roundw
            case rel => exact ⟨k + 1, by omega, by go_num, O6.out, L6.out, HX2⟩
            case measure => simp [intOf]; omega
        · have HD3 : Hid (d3 = false) := Lib.hid (by rw [HR3.out]; exact allIn_no VO (tgs M) y HMK.out (fun h => hin (HVK.out.1 h)))
          have HV : Hid (V = 3) := Lib.hid (FX.out.1 HD3.out)
          have e2 : decide (r2 < 0) = true := decide_eq_true (by omega)
          have e3 : decide (r3 < 0) = true := decide_eq_true (by omega)
          clear hin
          go_wp2_with (first
            | (go_at_call_of 72 a2; refine J2.out.mono ?_; rintro e w' ⟨rfl, rfl⟩)
            | (go_at_call_of 72 a3; refine J3.out.mono ?_; rintro e w' ⟨rfl, rfl⟩))
          all_goals
            go_ret
            exact ⟨by rw [HV.out]; rfl, A0.out.trans L3.out⟩
      · obtain rfl : k = n4 := by omega
        have HD3 : Hid (d3 = true) := Lib.hid (by rw [HR3.out]; exact HA4.out HI.out)
        obtain rfl : d3 = true := HD3.out
        have FX := Lib.hid FX.out.2
        have O4 := Lib.hid O3.out
        rw [HF4.out] at O4
        obtain ⟨g4, c4', rfl, hnc4, hcm4, hs4'⟩ := O4.out.rowC HNE.out HSH.out HN4.out
        have TW := Lib.hid (s_Twice (some ⟨g4, 0, none⟩) k c4' (tgs M) _ hs4' hnc4 hcm4 ⟨g4, rfl⟩)
        generalize decide (tgs M).Nodup = dd at TW HR4
        obtain rfl : d4 = dd := HR4.out
        clear hs4' hb HR4 O3 O4 HI HZ4 HT4
        go_wp2_with fail
        refine TW.out.mono ?_
        rintro e w7 ⟨rfl, hb⟩
        have L7 := Lib.hid (Later.trans L3.out hb)
        obtain ⟨q0, q1, q2, q3, q4, q5⟩ := C0.out _ L7.out
        clear hb
        cases d4
        · have HV : Hid (V = 4) := Lib.hid (FX.out.1 (by first | rfl | trivial) (by first | rfl | trivial))
          go_wp2_with fail
          all_goals
            go_ret
            exact ⟨by rw [HV.out]; rfl, A0.out.trans L7.out⟩
        have FX := Lib.hid FX.out.2
        by_cases h5 : k < n2 + n3
        · have HV : Hid (V = 5) := Lib.hid (FX.out.1 (by first | rfl | trivial) (by first | rfl | trivial) (by first | rfl | trivial) (by first | rfl | trivial) h5)
          have e5 : decide ((k : Int) < (n2 : Int) + (n3 : Int)) = true := decide_eq_true (by omega)
          go_wp2_with fail
          all_goals
            go_ret
            exact ⟨by rw [HV.out]; rfl, A0.out.trans L7.out⟩
        have HV6 : Hid (d6 = false → V = 6) := Lib.hid (FX.out.2.1 (by first | rfl | trivial) (by first | rfl | trivial) (by first | rfl | trivial) (by first | rfl | trivial) h5)
        have HV0 : Hid (d6 = true → V = 0) := Lib.hid (FX.out.2.2 (by first | rfl | trivial) (by first | rfl | trivial) (by first | rfl | trivial) (by first | rfl | trivial) h5)
        have e5 : decide ((k : Int) < (n2 : Int) + (n3 : Int)) = false := decide_eq_false (by omega)
        clear h5 TW hnc4 hcm4
        go_wp2_with fail
        clear e5
        go_loopw [6] (fun i w8 => ∃ u : Nat, u ≤ k ∧ i = .int .i64 u ∧ Later W0 w8 ∧ Hid (∀ j, j < u → ∀ x ∈ nmT (lrx M j), x ∈ IV)) (fun i _ => k - (intOf i).toNat)
        case atStart => exact ⟨0, by omega, rfl, L7.out, Lib.hid (by intro j h; omega)⟩
        case round =>
          clear q0 q1 q2 q3 q4 q5
          obtain ⟨u, hu, rfl, hb, HI⟩ := hrel
          have L8 := Lib.hid hb
          obtain ⟨q0, q1, q2, q3, q4, q5⟩ := C0.out _ hb
          by_cases hltu : u < k
          · have h40 := B40.out u hltu
            obtain ⟨b, off, ta, tc, rfl, c00, c01, c2⟩ := P4.out.2.2.1 u hltu
            have HC0 : Hid (∀ W', Later W0 W' → W'.cell? ⟨b, off + u * 2 + 1, none⟩ = some (.slice ta (lrx M u).length tc)) := Lib.hid (fun W' h => by rw [(A0.out.trans h).cell (p := ⟨b, off + u * 2 + 1, none⟩) (cell_lt c01)]; exact c01)
            have HS := Lib.hid c2
            have HMU := Lib.hid (HM6.out u hltu)
            have HXU : Hid ((∀ x ∈ nmT (lrx M u), x ∈ IV) → ∀ j, j < u + 1 → ∀ x ∈ nmT (lrx M j), x ∈ IV) := Lib.hid (fun h j hj => by
              rcases Nat.lt_or_ge j u with h1 | h1
              · exact HI.out j h1
              · obtain rfl : j = u := by omega
                exact h)
            generalize lrx M u = L at *
            have HJ := Lib.hid (fun j h => nmT_take L j h)
            have HLF : Hid (nmT (L.take L.length) = nmT L) := Lib.hid (by rw [List.take_length])
            have HSUB : Hid (∀ j, j < L.length → rkx L j = 1 → rsx L j ∈ nmT L) := Lib.hid (fun j hj hk => by
              unfold nmT
              exact List.mem_map.2 ⟨_, List.mem_filter.2 ⟨rk_mem L j hj, by simp [hk]⟩, rfl⟩)
            obtain ⟨q, hq⟩ : ∃ q, q = L.length := ⟨_, rfl⟩
            rw [← hq] at HC0 h40 HS HJ HLF HSUB
            clear c00 c01 c2 hb hq
            go_wp2_with fail
            go_loopw [7] (fun i w9 => ∃ j : Nat, j ≤ q ∧ i = .int .i64 j ∧ Later W0 w9 ∧ Hid (∀ x ∈ nmT (L.take j), x ∈ IV)) (fun i _ => q - (intOf i).toNat)
            case atStart => exact ⟨0, by omega, rfl, L8.out, Lib.hid (by intro x h; simp [nmT] at h)⟩
            case round =>
              clear q0 q1 q2 q3 q4 q5
              obtain ⟨j, hj, rfl, hb, HK⟩ := hrel
              have L9 := Lib.hid hb
              obtain ⟨q0, q1, q2, q3, q4, q5⟩ := C0.out _ hb
              have cT := HC0.out _ hb
              by_cases hltj : j < q
              · obtain ⟨b2, off2, rfl, d0, d1', d2'⟩ := (HS.out.later (A0.out.trans hb)).2.2.1 j hltj
                have HJ2 := Lib.hid (HJ.out j hltj)
                have HSU := Lib.hid (HSUB.out j hltj)
                have RY := Lib.hid (RD.out (rsx L j))
                obtain ⟨y, hy⟩ : ∃ y, y = rsx L j := ⟨_, rfl⟩
                rw [← hy] at d1' HJ2 HSU RY
                obtain ⟨Y, hY⟩ : ∃ Y, Y = tx y := ⟨_, rfl⟩
                rw [← hY] at d1' RY
                have HYI : Hid (decide (y ∈ IV) = decide (y ∈ IV)) := Lib.hid rfl
                obtain ⟨gy, hgy⟩ : ∃ gy, gy = decide (y ∈ IV) := ⟨_, rfl⟩
                rw [← hgy] at RY
                have HGY := Lib.hid hgy
                generalize rkx L j = kd at d0 HJ2 HSU
                generalize rnx L j = nb at d2'
                have hzw : w.heap.size < _ := Nat.lt_of_lt_of_le (show w.heap.size < W0.heap.size by rw [HZW.out]; exact Nat.lt_succ_self _) L9.out.size
                clear hy hY hb hgy HYI
                by_cases he : kd = 1
                · subst he
                  have HJ3 : Hid (nmT (L.take (j + 1)) = nmT (L.take j) ++ [y]) := Lib.hid (by have := HJ2.out; rw [if_pos rfl] at this; exact this)
                  cases gy
                  · have HV : Hid (V = 6) := Lib.hid (HV6.out (by rw [HR6.out]; exact allIn_no IV (nmV M) y (HMU.out y (HSU.out rfl)) (by have := HGY.out; intro h; rw [decide_eq_true h] at this; cases this)))
                    go_wp2_with (go_at_call 100; refine (RY.out _ (A0.out.trans (by repeat (first | (with_reducible exact Later.refl _) | (with_reducible exact Hid.out (by assumption)) | (with_reducible refine Later.alloc ?_ _) | (with_reducible refine Later.setCell ?_ (by simp; omega) _) | (with_reducible refine Later.setCell ?_ (by simp) _) | (with_reducible refine Later.drewN ?_ _) | (with_reducible refine Later.drew ?_) | (with_reducible refine Later.trans ?_ (Hid.out (by assumption))))))).mono ?_; rintro e w' ⟨rfl, hb⟩; have H10 := Lib.hid hb; clear hb)
                    all_goals
                      go_ret
                      exact ⟨by rw [HV.out]; rfl, A0.out.trans (by repeat (first | (with_reducible exact Later.refl _) | (with_reducible exact Hid.out (by assumption)) | (with_reducible refine Later.alloc ?_ _) | (with_reducible refine Later.setCell ?_ (by simp; omega) _) | (with_reducible refine Later.setCell ?_ (by simp) _) | (with_reducible refine Later.drewN ?_ _) | (with_reducible refine Later.drew ?_) | (with_reducible refine Later.trans ?_ (Hid.out (by assumption)))))⟩
                  · have HK2 : Hid (∀ x ∈ nmT (L.take (j + 1)), x ∈ IV) := Lib.hid (by
                      rw [HJ3.out]
                      intro x hx
                      rcases List.mem_append.1 hx with hx | hx
                      · exact HK.out x hx
                      · simp at hx; rw [hx]
                        exact of_decide_eq_true HGY.out.symm)
                    go_wp2_with (go_at_call 100; refine (RY.out _ (A0.out.trans (by repeat (first | (with_reducible exact Later.refl _) | (with_reducible exact Hid.out (by assumption)) | (with_reducible refine Later.alloc ?_ _) | (with_reducible refine Later.setCell ?_ (by simp; omega) _) | (with_reducible refine Later.setCell ?_ (by simp) _) | (with_reducible refine Later.drewN ?_ _) | (with_reducible refine Later.drew ?_) | (with_reducible refine Later.trans ?_ (Hid.out (by assumption))))))).mono ?_; rintro e w' ⟨rfl, hb⟩; have H10 := Lib.hid hb; clear hb)
                    go_roundw
                    case rel => exact ⟨j + 1, by omega, by go_num, (by repeat (first | (with_reducible exact Later.refl _) | (with_reducible exact Hid.out (by assumption)) | (with_reducible refine Later.alloc ?_ _) | (with_reducible refine Later.setCell ?_ (by simp; omega) _) | (with_reducible refine Later.setCell ?_ (by simp) _) | (with_reducible refine Later.drewN ?_ _) | (with_reducible refine Later.drew ?_) | (with_reducible refine Later.trans ?_ (Hid.out (by assumption))))), HK2⟩
                    case measure => simp [intOf]; omega
                · have HJ3 : Hid (nmT (L.take (j + 1)) = nmT (L.take j)) := Lib.hid (by have := HJ2.out; rw [if_neg he] at this; exact this)
                  have hne : (kd == 1) = false := by simpa using he
                  clear he
                  go_wp2_with fail
                  go_roundw
                  case rel => exact ⟨j + 1, by omega, by go_num, (by repeat (first | (with_reducible exact Later.refl _) | (with_reducible exact Hid.out (by assumption)) | (with_reducible refine Later.alloc ?_ _) | (with_reducible refine Later.setCell ?_ (by simp; omega) _) | (with_reducible refine Later.setCell ?_ (by simp) _) | (with_reducible refine Later.drewN ?_ _) | (with_reducible refine Later.drew ?_) | (with_reducible refine Later.trans ?_ (Hid.out (by assumption))))), Lib.hid (by rw [HJ3.out]; exact HK.out)⟩
                  case measure => simp [intOf]; omega
              · obtain rfl : j = q := by omega
                have HI2 := Lib.hid (HXU.out (by have := HK.out; rw [HLF.out] at this; exact this))
                clear hb
                go_wp2_with fail
                go_roundw
                case rel => exact ⟨u + 1, by omega, by go_num, L9.out, HI2⟩
                case measure => simp [intOf]; omega
          · obtain rfl : u = k := by omega
            have HV : Hid (V = 0) := Lib.hid (HV0.out (by rw [HR6.out]; exact HA6.out HI.out))
            clear hb
            go_wp2_with fail
            all_goals
              go_ret
              exact ⟨by rw [HV.out]; rfl, A0.out.trans L8.out⟩
end Go.Proofs.YtokipobjpinhmaaDoor
namespace Go.Proofs.YtokipobjpinhmaaDoor
open Go.RowKit Go.Shelf
set_option maxHeartbeats 4000000
set_option maxRecDepth 100000
set_option linter.unusedVariables false
set_option linter.unusedSimpArgs false
theorem s_ProgramFault (base : Nat) (v : Value) (p : Prg) (w : World) (hp : PgC base w v p) (hl : p.lns.length ≤ 1048576) :
    Calls Tryd.prog 16 #[v] w fun e w' => e = .returned (.tuple #[.int .i64 (pfV p), .int .i64 (pfE p)]) ∧ Later w w' := by
  have IW := Lib.hid (fun W (h : Later w W) => s_IsWritten v p W (hp.pgv.later h) (by omega))
  have BR := Lib.hid (fun W (h : Later w W) (hw : wrtB p = true) => s_Fault base v p W (hp.later h) hw)
  have HV : Hid (pfV p = if wrtB p = true then fltV p else 0) := Lib.hid rfl
  have HE : Hid (pfE p = if wrtB p = true then 0 else 1) := Lib.hid rfl
  obtain ⟨a1, c1, a2, c2, a3, c3, a4, c4, rfl, _, _, _, _, _, _⟩ := hp.pgv
  clear hp hl
  generalize pfV p = V at HV ⊢
  generalize pfE p = E at HE ⊢
  generalize wrtB p = b at IW BR HV HE
  generalize fltV p = r at BR HV
  obtain ⟨s0, hs0⟩ : ∃ q, q = tx p.nm := ⟨_, rfl⟩
  obtain ⟨s4, hs4⟩ : ∃ q, q = tx p.grd := ⟨_, rfl⟩
  obtain ⟨n1, hn1⟩ : ∃ q, q = p.ins.length := ⟨_, rfl⟩
  obtain ⟨n2, hn2⟩ : ∃ q, q = p.vrs.length := ⟨_, rfl⟩
  obtain ⟨n3, hn3⟩ : ∃ q, q = p.outs.length := ⟨_, rfl⟩
  obtain ⟨n4, hn4⟩ : ∃ q, q = p.lns.length := ⟨_, rfl⟩
  simp only [← hs0, ← hs4, ← hn1, ← hn2, ← hn3, ← hn4] at IW BR ⊢
  clear hs0 hs4 hn1 hn2 hn3 hn4
  have q0 : (w.alloc (.cells #[.string s0, .slice a1 n1 c1, .slice a2 n2 c2, .slice a3 n3 c3, .string s4, .slice a4 n4 c4] 27)).cell? ⟨w.heap.size, 0, none⟩ = some (.string s0) := by rw [cell_of_row _ _ 0 _ _ (0, 0) (heap_alloc_new w _)]; rfl
  have q1 : (w.alloc (.cells #[.string s0, .slice a1 n1 c1, .slice a2 n2 c2, .slice a3 n3 c3, .string s4, .slice a4 n4 c4] 27)).cell? ⟨w.heap.size, 1, none⟩ = some (.slice a1 n1 c1) := by rw [cell_of_row _ _ 1 _ _ (0, 0) (heap_alloc_new w _)]; rfl
  have q2 : (w.alloc (.cells #[.string s0, .slice a1 n1 c1, .slice a2 n2 c2, .slice a3 n3 c3, .string s4, .slice a4 n4 c4] 27)).cell? ⟨w.heap.size, 2, none⟩ = some (.slice a2 n2 c2) := by rw [cell_of_row _ _ 2 _ _ (0, 0) (heap_alloc_new w _)]; rfl
  have q3 : (w.alloc (.cells #[.string s0, .slice a1 n1 c1, .slice a2 n2 c2, .slice a3 n3 c3, .string s4, .slice a4 n4 c4] 27)).cell? ⟨w.heap.size, 3, none⟩ = some (.slice a3 n3 c3) := by rw [cell_of_row _ _ 3 _ _ (0, 0) (heap_alloc_new w _)]; rfl
  have q4 : (w.alloc (.cells #[.string s0, .slice a1 n1 c1, .slice a2 n2 c2, .slice a3 n3 c3, .string s4, .slice a4 n4 c4] 27)).cell? ⟨w.heap.size, 4, none⟩ = some (.string s4) := by rw [cell_of_row _ _ 4 _ _ (0, 0) (heap_alloc_new w _)]; rfl
  have q5 : (w.alloc (.cells #[.string s0, .slice a1 n1 c1, .slice a2 n2 c2, .slice a3 n3 c3, .string s4, .slice a4 n4 c4] 27)).cell? ⟨w.heap.size, 5, none⟩ = some (.slice a4 n4 c4) := by rw [cell_of_row _ _ 5 _ _ (0, 0) (heap_alloc_new w _)]; rfl
  have hW0 : w.heap.size < (w.alloc (.cells #[.string s0, .slice a1 n1 c1, .slice a2 n2 c2, .slice a3 n3 c3, .string s4, .slice a4 n4 c4] 27)).heap.size := by rw [World.size_alloc]; exact Nat.lt_succ_self _
  have C0 : Hid (∀ W', Later (w.alloc (.cells #[.string s0, .slice a1 n1 c1, .slice a2 n2 c2, .slice a3 n3 c3, .string s4, .slice a4 n4 c4] 27)) W' → W'.cell? ⟨w.heap.size, 0, none⟩ = some (.string s0) ∧ W'.cell? ⟨w.heap.size, 1, none⟩ = some (.slice a1 n1 c1) ∧ W'.cell? ⟨w.heap.size, 2, none⟩ = some (.slice a2 n2 c2) ∧ W'.cell? ⟨w.heap.size, 3, none⟩ = some (.slice a3 n3 c3) ∧ W'.cell? ⟨w.heap.size, 4, none⟩ = some (.string s4) ∧ W'.cell? ⟨w.heap.size, 5, none⟩ = some (.slice a4 n4 c4)) := Lib.hid (fun W' q => ⟨by rw [q.cell (p := ⟨w.heap.size, 0, none⟩) hW0]; exact q0, by rw [q.cell (p := ⟨w.heap.size, 1, none⟩) hW0]; exact q1, by rw [q.cell (p := ⟨w.heap.size, 2, none⟩) hW0]; exact q2, by rw [q.cell (p := ⟨w.heap.size, 3, none⟩) hW0]; exact q3, by rw [q.cell (p := ⟨w.heap.size, 4, none⟩) hW0]; exact q4, by rw [q.cell (p := ⟨w.heap.size, 5, none⟩) hW0]; exact q5⟩)
  have A0 : Hid (Later w (w.alloc (.cells #[.string s0, .slice a1 n1 c1, .slice a2 n2 c2, .slice a3 n3 c3, .string s4, .slice a4 n4 c4] 27))) := Lib.hid ((Later.refl _).alloc _)
  clear hW0
  cases b
  · obtain rfl : V = 0 := HV.out
    obtain rfl : E = 1 := HE.out
    go_enter Tryd.func16, Tryd.ntmps16
    go_wp2_with fail
    generalize (w.alloc (.cells #[.string s0, .slice a1 n1 c1, .slice a2 n2 c2, .slice a3 n3 c3, .string s4, .slice a4 n4 c4] 27)) = W0 at C0 A0 q0 q1 q2 q3 q4 q5 ⊢
    refine (IW.out _ A0.out).mono ?_
    rintro e w1 ⟨rfl, hb⟩
    have B1 := Lib.hid (Later.trans A0.out hb)
    clear q0 q1 q2 q3 q4 q5
    obtain ⟨q0, q1, q2, q3, q4, q5⟩ := C0.out _ hb
    clear hb
    go_wp2_with fail
    all_goals
      refine bodyPost_ret (v := .tuple #[.int .i64 0, .int .i64 1]) (by simp [results, Tryd.results16, go_sem, *]) rfl ⟨rfl, B1.out⟩
  · obtain rfl : V = r := HV.out
    obtain rfl : E = 0 := HE.out
    go_enter Tryd.func16, Tryd.ntmps16
    go_wp2_with fail
    generalize (w.alloc (.cells #[.string s0, .slice a1 n1 c1, .slice a2 n2 c2, .slice a3 n3 c3, .string s4, .slice a4 n4 c4] 27)) = W0 at C0 A0 q0 q1 q2 q3 q4 q5 ⊢
    refine (IW.out _ A0.out).mono ?_
    rintro e w1 ⟨rfl, hb⟩
    have B1 := Lib.hid (Later.trans A0.out hb)
    clear q0 q1 q2 q3 q4 q5
    obtain ⟨q0, q1, q2, q3, q4, q5⟩ := C0.out _ hb
    clear hb
    go_wp2_with fail
    refine (BR.out _ B1.out (by first | rfl | trivial)).mono ?_
    rintro e w2 ⟨rfl, hb⟩
    have B2 := Lib.hid (Later.trans B1.out hb)
    clear hb
    go_wp2_with fail
    all_goals
      refine bodyPost_ret (v := .tuple #[.int .i64 V, .int .i64 0]) (by simp [results, Tryd.results16, go_sem, *]) rfl ⟨rfl, B2.out⟩
theorem s_Code (base : Nat) (v : Value) (p : Prg) (w : World) (hp : PgC base w v p) (hl : p.lns.length ≤ 1048576) :
    Calls Tryd.prog 55 #[v] w fun e w' => e = .returned (.int .i64 (seV p)) ∧ Later w w' := by
  have IW := Lib.hid (fun W (h : Later w W) => s_IsWritten v p W (hp.pgv.later h) (by omega))
  have BR := Lib.hid (fun W (h : Later w W) (hw : wrtB p = true) => s_Fault base v p W (hp.later h) hw)
  have HV : Hid (seV p = if wrtB p = true then (if fltV p = 0 then 0 else 5) else 1) := Lib.hid rfl
  obtain ⟨a1, c1, a2, c2, a3, c3, a4, c4, rfl, _, _, _, _, _, _⟩ := hp.pgv
  clear hp hl
  generalize seV p = V at HV ⊢
  generalize wrtB p = b at IW BR HV
  generalize fltV p = r at BR HV
  obtain ⟨s0, hs0⟩ : ∃ q, q = tx p.nm := ⟨_, rfl⟩
  obtain ⟨s4, hs4⟩ : ∃ q, q = tx p.grd := ⟨_, rfl⟩
  obtain ⟨n1, hn1⟩ : ∃ q, q = p.ins.length := ⟨_, rfl⟩
  obtain ⟨n2, hn2⟩ : ∃ q, q = p.vrs.length := ⟨_, rfl⟩
  obtain ⟨n3, hn3⟩ : ∃ q, q = p.outs.length := ⟨_, rfl⟩
  obtain ⟨n4, hn4⟩ : ∃ q, q = p.lns.length := ⟨_, rfl⟩
  simp only [← hs0, ← hs4, ← hn1, ← hn2, ← hn3, ← hn4] at IW BR ⊢
  clear hs0 hs4 hn1 hn2 hn3 hn4
  have q0 : (w.alloc (.cells #[.string s0, .slice a1 n1 c1, .slice a2 n2 c2, .slice a3 n3 c3, .string s4, .slice a4 n4 c4] 27)).cell? ⟨w.heap.size, 0, none⟩ = some (.string s0) := by rw [cell_of_row _ _ 0 _ _ (0, 0) (heap_alloc_new w _)]; rfl
  have q1 : (w.alloc (.cells #[.string s0, .slice a1 n1 c1, .slice a2 n2 c2, .slice a3 n3 c3, .string s4, .slice a4 n4 c4] 27)).cell? ⟨w.heap.size, 1, none⟩ = some (.slice a1 n1 c1) := by rw [cell_of_row _ _ 1 _ _ (0, 0) (heap_alloc_new w _)]; rfl
  have q2 : (w.alloc (.cells #[.string s0, .slice a1 n1 c1, .slice a2 n2 c2, .slice a3 n3 c3, .string s4, .slice a4 n4 c4] 27)).cell? ⟨w.heap.size, 2, none⟩ = some (.slice a2 n2 c2) := by rw [cell_of_row _ _ 2 _ _ (0, 0) (heap_alloc_new w _)]; rfl
  have q3 : (w.alloc (.cells #[.string s0, .slice a1 n1 c1, .slice a2 n2 c2, .slice a3 n3 c3, .string s4, .slice a4 n4 c4] 27)).cell? ⟨w.heap.size, 3, none⟩ = some (.slice a3 n3 c3) := by rw [cell_of_row _ _ 3 _ _ (0, 0) (heap_alloc_new w _)]; rfl
  have q4 : (w.alloc (.cells #[.string s0, .slice a1 n1 c1, .slice a2 n2 c2, .slice a3 n3 c3, .string s4, .slice a4 n4 c4] 27)).cell? ⟨w.heap.size, 4, none⟩ = some (.string s4) := by rw [cell_of_row _ _ 4 _ _ (0, 0) (heap_alloc_new w _)]; rfl
  have q5 : (w.alloc (.cells #[.string s0, .slice a1 n1 c1, .slice a2 n2 c2, .slice a3 n3 c3, .string s4, .slice a4 n4 c4] 27)).cell? ⟨w.heap.size, 5, none⟩ = some (.slice a4 n4 c4) := by rw [cell_of_row _ _ 5 _ _ (0, 0) (heap_alloc_new w _)]; rfl
  have hW0 : w.heap.size < (w.alloc (.cells #[.string s0, .slice a1 n1 c1, .slice a2 n2 c2, .slice a3 n3 c3, .string s4, .slice a4 n4 c4] 27)).heap.size := by rw [World.size_alloc]; exact Nat.lt_succ_self _
  have C0 : Hid (∀ W', Later (w.alloc (.cells #[.string s0, .slice a1 n1 c1, .slice a2 n2 c2, .slice a3 n3 c3, .string s4, .slice a4 n4 c4] 27)) W' → W'.cell? ⟨w.heap.size, 0, none⟩ = some (.string s0) ∧ W'.cell? ⟨w.heap.size, 1, none⟩ = some (.slice a1 n1 c1) ∧ W'.cell? ⟨w.heap.size, 2, none⟩ = some (.slice a2 n2 c2) ∧ W'.cell? ⟨w.heap.size, 3, none⟩ = some (.slice a3 n3 c3) ∧ W'.cell? ⟨w.heap.size, 4, none⟩ = some (.string s4) ∧ W'.cell? ⟨w.heap.size, 5, none⟩ = some (.slice a4 n4 c4)) := Lib.hid (fun W' q => ⟨by rw [q.cell (p := ⟨w.heap.size, 0, none⟩) hW0]; exact q0, by rw [q.cell (p := ⟨w.heap.size, 1, none⟩) hW0]; exact q1, by rw [q.cell (p := ⟨w.heap.size, 2, none⟩) hW0]; exact q2, by rw [q.cell (p := ⟨w.heap.size, 3, none⟩) hW0]; exact q3, by rw [q.cell (p := ⟨w.heap.size, 4, none⟩) hW0]; exact q4, by rw [q.cell (p := ⟨w.heap.size, 5, none⟩) hW0]; exact q5⟩)
  have A0 : Hid (Later w (w.alloc (.cells #[.string s0, .slice a1 n1 c1, .slice a2 n2 c2, .slice a3 n3 c3, .string s4, .slice a4 n4 c4] 27))) := Lib.hid ((Later.refl _).alloc _)
  clear hW0
  cases b
  · obtain rfl : V = 1 := HV.out
    go_enter Tryd.func55, Tryd.ntmps55
    go_wp2_with fail
    generalize (w.alloc (.cells #[.string s0, .slice a1 n1 c1, .slice a2 n2 c2, .slice a3 n3 c3, .string s4, .slice a4 n4 c4] 27)) = W0 at C0 A0 q0 q1 q2 q3 q4 q5 ⊢
    refine (IW.out _ A0.out).mono ?_
    rintro e w1 ⟨rfl, hb⟩
    have B1 := Lib.hid (Later.trans A0.out hb)
    clear q0 q1 q2 q3 q4 q5
    obtain ⟨q0, q1, q2, q3, q4, q5⟩ := C0.out _ hb
    clear hb
    go_wp2_with fail
    all_goals
      go_ret
      exact ⟨rfl, B1.out⟩
  · have HV2 : V = if r = 0 then 0 else 5 := HV.out
    go_enter Tryd.func55, Tryd.ntmps55
    go_wp2_with fail
    generalize (w.alloc (.cells #[.string s0, .slice a1 n1 c1, .slice a2 n2 c2, .slice a3 n3 c3, .string s4, .slice a4 n4 c4] 27)) = W0 at C0 A0 q0 q1 q2 q3 q4 q5 ⊢
    refine (IW.out _ A0.out).mono ?_
    rintro e w1 ⟨rfl, hb⟩
    have B1 := Lib.hid (Later.trans A0.out hb)
    clear q0 q1 q2 q3 q4 q5
    obtain ⟨q0, q1, q2, q3, q4, q5⟩ := C0.out _ hb
    clear hb
    go_wp2_with fail
    refine (BR.out _ B1.out (by first | rfl | trivial)).mono ?_
    rintro e w2 ⟨rfl, hb⟩
    have B2 := Lib.hid (Later.trans B1.out hb)
    clear hb
    by_cases hr : r = 0
    · rw [if_pos hr] at HV2
      subst HV2; subst hr
      go_wp2_with fail
      all_goals
        go_ret
        exact ⟨rfl, B2.out⟩
    · rw [if_neg hr] at HV2
      subst HV2
      have er : (r == 0) = false := by simpa using hr
      have er2 : (r != 0) = true := by simpa using hr
      go_wp2_with fail
      all_goals
        go_ret
        exact ⟨rfl, B2.out⟩
theorem s_IsSound (base : Nat) (v : Value) (p : Prg) (w : World) (hp : PgC base w v p) (hl : p.lns.length ≤ 1048576) :
    Calls Tryd.prog 20 #[v] w fun e w' => e = .returned (.bool (isS p)) ∧ Later w w' := by
  have IW := Lib.hid (fun W (h : Later w W) => s_IsWritten v p W (hp.pgv.later h) (by omega))
  have BR := Lib.hid (fun W (h : Later w W) (hw : wrtB p = true) => s_Fault base v p W (hp.later h) hw)
  have HV : Hid (isS p = (wrtB p && decide (fltV p = 0))) := Lib.hid (by
    unfold isS seV
    cases wrtB p
    · rfl
    · by_cases h : fltV p = 0 <;> simp [h])
  obtain ⟨a1, c1, a2, c2, a3, c3, a4, c4, rfl, _, _, _, _, _, _⟩ := hp.pgv
  clear hp hl
  generalize isS p = V at HV ⊢
  generalize wrtB p = b at IW BR HV
  generalize fltV p = r at BR HV
  obtain ⟨s0, hs0⟩ : ∃ q, q = tx p.nm := ⟨_, rfl⟩
  obtain ⟨s4, hs4⟩ : ∃ q, q = tx p.grd := ⟨_, rfl⟩
  obtain ⟨n1, hn1⟩ : ∃ q, q = p.ins.length := ⟨_, rfl⟩
  obtain ⟨n2, hn2⟩ : ∃ q, q = p.vrs.length := ⟨_, rfl⟩
  obtain ⟨n3, hn3⟩ : ∃ q, q = p.outs.length := ⟨_, rfl⟩
  obtain ⟨n4, hn4⟩ : ∃ q, q = p.lns.length := ⟨_, rfl⟩
  simp only [← hs0, ← hs4, ← hn1, ← hn2, ← hn3, ← hn4] at IW BR ⊢
  clear hs0 hs4 hn1 hn2 hn3 hn4
  have q0 : (w.alloc (.cells #[.string s0, .slice a1 n1 c1, .slice a2 n2 c2, .slice a3 n3 c3, .string s4, .slice a4 n4 c4] 27)).cell? ⟨w.heap.size, 0, none⟩ = some (.string s0) := by rw [cell_of_row _ _ 0 _ _ (0, 0) (heap_alloc_new w _)]; rfl
  have q1 : (w.alloc (.cells #[.string s0, .slice a1 n1 c1, .slice a2 n2 c2, .slice a3 n3 c3, .string s4, .slice a4 n4 c4] 27)).cell? ⟨w.heap.size, 1, none⟩ = some (.slice a1 n1 c1) := by rw [cell_of_row _ _ 1 _ _ (0, 0) (heap_alloc_new w _)]; rfl
  have q2 : (w.alloc (.cells #[.string s0, .slice a1 n1 c1, .slice a2 n2 c2, .slice a3 n3 c3, .string s4, .slice a4 n4 c4] 27)).cell? ⟨w.heap.size, 2, none⟩ = some (.slice a2 n2 c2) := by rw [cell_of_row _ _ 2 _ _ (0, 0) (heap_alloc_new w _)]; rfl
  have q3 : (w.alloc (.cells #[.string s0, .slice a1 n1 c1, .slice a2 n2 c2, .slice a3 n3 c3, .string s4, .slice a4 n4 c4] 27)).cell? ⟨w.heap.size, 3, none⟩ = some (.slice a3 n3 c3) := by rw [cell_of_row _ _ 3 _ _ (0, 0) (heap_alloc_new w _)]; rfl
  have q4 : (w.alloc (.cells #[.string s0, .slice a1 n1 c1, .slice a2 n2 c2, .slice a3 n3 c3, .string s4, .slice a4 n4 c4] 27)).cell? ⟨w.heap.size, 4, none⟩ = some (.string s4) := by rw [cell_of_row _ _ 4 _ _ (0, 0) (heap_alloc_new w _)]; rfl
  have q5 : (w.alloc (.cells #[.string s0, .slice a1 n1 c1, .slice a2 n2 c2, .slice a3 n3 c3, .string s4, .slice a4 n4 c4] 27)).cell? ⟨w.heap.size, 5, none⟩ = some (.slice a4 n4 c4) := by rw [cell_of_row _ _ 5 _ _ (0, 0) (heap_alloc_new w _)]; rfl
  have hW0 : w.heap.size < (w.alloc (.cells #[.string s0, .slice a1 n1 c1, .slice a2 n2 c2, .slice a3 n3 c3, .string s4, .slice a4 n4 c4] 27)).heap.size := by rw [World.size_alloc]; exact Nat.lt_succ_self _
  have C0 : Hid (∀ W', Later (w.alloc (.cells #[.string s0, .slice a1 n1 c1, .slice a2 n2 c2, .slice a3 n3 c3, .string s4, .slice a4 n4 c4] 27)) W' → W'.cell? ⟨w.heap.size, 0, none⟩ = some (.string s0) ∧ W'.cell? ⟨w.heap.size, 1, none⟩ = some (.slice a1 n1 c1) ∧ W'.cell? ⟨w.heap.size, 2, none⟩ = some (.slice a2 n2 c2) ∧ W'.cell? ⟨w.heap.size, 3, none⟩ = some (.slice a3 n3 c3) ∧ W'.cell? ⟨w.heap.size, 4, none⟩ = some (.string s4) ∧ W'.cell? ⟨w.heap.size, 5, none⟩ = some (.slice a4 n4 c4)) := Lib.hid (fun W' q => ⟨by rw [q.cell (p := ⟨w.heap.size, 0, none⟩) hW0]; exact q0, by rw [q.cell (p := ⟨w.heap.size, 1, none⟩) hW0]; exact q1, by rw [q.cell (p := ⟨w.heap.size, 2, none⟩) hW0]; exact q2, by rw [q.cell (p := ⟨w.heap.size, 3, none⟩) hW0]; exact q3, by rw [q.cell (p := ⟨w.heap.size, 4, none⟩) hW0]; exact q4, by rw [q.cell (p := ⟨w.heap.size, 5, none⟩) hW0]; exact q5⟩)
  have A0 : Hid (Later w (w.alloc (.cells #[.string s0, .slice a1 n1 c1, .slice a2 n2 c2, .slice a3 n3 c3, .string s4, .slice a4 n4 c4] 27))) := Lib.hid ((Later.refl _).alloc _)
  clear hW0
  cases b
  · have HV2 : V = false := HV.out
    go_enter Tryd.func20, Tryd.ntmps20
    go_wp2_with fail
    generalize (w.alloc (.cells #[.string s0, .slice a1 n1 c1, .slice a2 n2 c2, .slice a3 n3 c3, .string s4, .slice a4 n4 c4] 27)) = W0 at C0 A0 q0 q1 q2 q3 q4 q5 ⊢
    refine (IW.out _ A0.out).mono ?_
    rintro e w1 ⟨rfl, hb⟩
    have B1 := Lib.hid (Later.trans A0.out hb)
    clear hb q0 q1 q2 q3 q4 q5
    go_wp2_with fail
    all_goals
      go_ret
      exact ⟨by rw [HV2]; rfl, B1.out⟩
  · have HV2 : Hid (V = decide (r = 0)) := Lib.hid HV.out
    go_enter Tryd.func20, Tryd.ntmps20
    go_wp2_with fail
    generalize (w.alloc (.cells #[.string s0, .slice a1 n1 c1, .slice a2 n2 c2, .slice a3 n3 c3, .string s4, .slice a4 n4 c4] 27)) = W0 at C0 A0 q0 q1 q2 q3 q4 q5 ⊢
    refine (IW.out _ A0.out).mono ?_
    rintro e w1 ⟨rfl, hb⟩
    have B1 := Lib.hid (Later.trans A0.out hb)
    clear q0 q1 q2 q3 q4 q5
    obtain ⟨q0, q1, q2, q3, q4, q5⟩ := C0.out _ hb
    clear hb
    go_wp2_with fail
    refine (BR.out _ B1.out (by first | rfl | trivial)).mono ?_
    rintro e w2 ⟨rfl, hb⟩
    have B2 := Lib.hid (Later.trans B1.out hb)
    clear hb
    go_wp2_with fail
    all_goals
      go_ret
      exact ⟨by rw [HV2.out]; exact ret_b (by by_cases h : r = 0 <;> simp [h]), B2.out⟩
end Go.Proofs.YtokipobjpinhmaaDoor
namespace Go.Proofs.YtokipobjpinhmaaDoor
open Go.RowKit Go.Shelf
set_option maxHeartbeats 16000000
set_option maxRecDepth 100000
set_option linter.unusedVariables false
set_option linter.unusedSimpArgs false
theorem OwnT.heapN {w w' : World} {base : Nat} {v : Value} {l : List (List UInt8)} (h : OwnT w base v l) (e : w'.heap = w.heap) : OwnT w' base v l := by
  refine ⟨h.1, ?_⟩
  rcases h.2 with h0 | ⟨g, cap, cur, rfl, h1, hg, h2⟩
  · exact .inl h0
  · exact .inr ⟨g, cap, cur, rfl, h1, by rw [e]; exact hg, h2⟩
/-- append(out, M...) as one step of a region that draws its order -/
theorem stepT {ops : Array Oper} {o : Oper} {a : Act} {W : World} {K : Act → World → Prop} {Q : Exit → Act → World → Prop} {E : Prop} (hgd : o.guard = none) (s x : Operand)
    (ho : o.op = .call { callee := .builtin .append, args := #[s, x], argTypes := #[24, 24] })
    (base : Nat) (v : Value) (l M : List (List UInt8)) (b off : Nat) (n tc : Nat) (hown : OwnT W base v l) (hM : Sts W (some ⟨b, off, none⟩) n M) (hs : a.eval s = v) (hx : a.eval x = .slice (some ⟨b, off, none⟩) n tc) (hl : l.length ≤ 100000000) (hm : n ≤ 100000000) (hbase : base ≤ W.heap.size)
    (h : ∀ v' w', OwnT w' base v' (l ++ M) → W.grownBy w' v.ownBlock → K (a.put o.dst v') w') : if Region.wanted o (yielded ops a.tmps) = true then Oper.wp Tryd.prog o a W K Q else E := by
  have hw : Region.wanted o (yielded ops a.tmps) = true := by simp [Region.wanted, hgd]
  rw [if_pos hw]
  obtain ⟨i0, hi, hz0, hz1, hz2⟩ := info_parts info_str
  have hMl := hM.1
  obtain ⟨v', w', hrun, r1, r2, _⟩ := run_append_own (P := Tryd.prog) W base 24 o.type 9 i0 (.string ⟨#[]⟩) 1 16 Tryd.underlying24 hi hz0 hz1 hz2 rfl (by decide) v l.length _ hown ⟨b, off, none⟩ n tc (M.map (fun x => Value.string (tx x))) (by simp [hMl]) (by
    intro j u hj
    have hj3 : j < n := by
      have := (List.getElem?_eq_some_iff.1 hj).1
      simpa [hMl] using this
    obtain ⟨b', off', e, c0⟩ := hM.at j hj3
    cases e
    rw [Addr.add_lit]
    rw [List.getElem?_map, List.getElem?_eq_getElem (by omega), wx_at M j (by omega)] at hj
    rw [c0]; exact hj) (fun u hu => by obtain ⟨y, _, rfl⟩ := List.mem_map.1 hu; rfl) (by unfold maxLen; omega) (by omega) hbase
  unfold Oper.wp
  simp [execOp, ho, resolve, invoke, builtin, hs, hx, hrun, Result.andThen]
  refine h v' w' ?_ r2
  unfold OwnT
  rw [List.length_append, hMl, List.map_append]; exact r1
theorem s_UnusedNames (base : Nat) (v : Value) (p : Prg) (w : World) (hp : PgC base w v p) (hl : p.lns.length ≤ 1048576) :
    Calls Tryd.prog 36 #[v] w (RetX w (unW p) (seV p)) := by
  have PF := Lib.hid (fun W (h : Later w W) => s_Code base v p W (hp.later h) hl)
  have HV : Hid (unW p = if seV p = 0 then (p.ins ++ p.vrs).filter (unB p) else []) := Lib.hid rfl
  have WB : Hid (seV p = 0 → p.ins.length ≤ 20 ∧ p.vrs.length ≤ 20 ∧ p.lns.length ≤ 40) := Lib.hid (fun h => by have wb := wb_of p (seV_wrt p h); exact ⟨wb.2.2.1, wb.2.2.2.1, wb.2.2.2.2.2.1⟩)
  have SHO := Lib.hid (mem_app2 hp.pgv.shorts.1 hp.pgv.shorts.2.1)
  have HF : Hid (∀ j, j < (p.ins ++ p.vrs).length → ((p.ins ++ p.vrs).take (j + 1)).filter (unB p) = if unB p (wx (p.ins ++ p.vrs) j) = true then ((p.ins ++ p.vrs).take j).filter (unB p) ++ [wx (p.ins ++ p.vrs) j] else ((p.ins ++ p.vrs).take j).filter (unB p)) := Lib.hid (fun j h => fil_take _ _ j h)
  have HFL : Hid (((p.ins ++ p.vrs).take (p.ins ++ p.vrs).length).filter (unB p) = (p.ins ++ p.vrs).filter (unB p)) := Lib.hid (by rw [List.take_length])
  have HLE : Hid (∀ j, (((p.ins ++ p.vrs).take j).filter (unB p)).length ≤ (p.ins ++ p.vrs).length) := Lib.hid (fun j => Nat.le_trans (fil_len _ _) (by rw [List.length_take]; omega))
  have UG : Hid (∀ x, x = p.grd → unB p x = false) := Lib.hid (fun x h => unB_grd p x h)
  have UN : Hid (∀ x i, i < p.lns.length → usB (lrx p.lns i) x = true → unB p x = false) := Lib.hid (fun x i hi h => unB_no p x i hi h)
  have UY : Hid (∀ x, x ≠ p.grd → (∀ i, i < p.lns.length → usB (lrx p.lns i) x = false) → unB p x = true) := Lib.hid (fun x h1 h2 => unB_uses p x h1 h2)
  have EQ : Hid (∀ x, ((tx x).toList == (tx p.grd).toList) = decide (x = p.grd)) := Lib.hid (fun x => eqx x p.grd)
  have HLS : Hid ((p.ins ++ p.vrs).length = p.ins.length + p.vrs.length) := Lib.hid (List.length_append)
  obtain ⟨g1, g2, g3, g4, rfl, _, ⟨h1, _⟩, ⟨h2, _⟩, ⟨h3, _⟩, ⟨h4, _⟩, _, _⟩ := hp
  have S1 := Lib.hid h1; have S2 := Lib.hid h2
  have P4 := Lib.hid h4.lns
  clear hl h1 h2 h3 h4
  generalize unW p = R at HV ⊢
  generalize unB p = H at *
  generalize seV p = E at PF HV WB ⊢
  obtain ⟨s0, hs0⟩ : ∃ q, q = tx p.nm := ⟨_, rfl⟩
  obtain ⟨s4, hs4⟩ : ∃ q, q = tx p.grd := ⟨_, rfl⟩
  obtain ⟨n1, hn1⟩ : ∃ q, q = p.ins.length := ⟨_, rfl⟩
  obtain ⟨n2, hn2⟩ : ∃ q, q = p.vrs.length := ⟨_, rfl⟩
  obtain ⟨n3, hn3⟩ : ∃ q, q = p.outs.length := ⟨_, rfl⟩
  obtain ⟨n4, hn4⟩ : ∃ q, q = p.lns.length := ⟨_, rfl⟩
  simp only [← hs0, ← hs4, ← hn1, ← hn2, ← hn3, ← hn4] at PF WB S1 S2 P4 UN UY EQ HLS ⊢
  generalize p.grd = gd at UG UY EQ
  generalize p.lns = M at *
  have E1 : Hid (([] : List (List UInt8)) ++ p.ins = p.ins) := Lib.hid rfl
  clear hs0 hs4 hn1 hn2 hn3 hn4
  have q0 : (w.alloc (.cells #[.string s0, .slice (some ⟨g1, 0, none⟩) n1 n1, .slice (some ⟨g2, 0, none⟩) n2 n2, .slice (some ⟨g3, 0, none⟩) n3 n3, .string s4, .slice (some ⟨g4, 0, none⟩) n4 n4] 27)).cell? ⟨w.heap.size, 0, none⟩ = some (.string s0) := by rw [cell_of_row _ _ 0 _ _ (0, 0) (heap_alloc_new w _)]; rfl
  have q1 : (w.alloc (.cells #[.string s0, .slice (some ⟨g1, 0, none⟩) n1 n1, .slice (some ⟨g2, 0, none⟩) n2 n2, .slice (some ⟨g3, 0, none⟩) n3 n3, .string s4, .slice (some ⟨g4, 0, none⟩) n4 n4] 27)).cell? ⟨w.heap.size, 1, none⟩ = some (.slice (some ⟨g1, 0, none⟩) n1 n1) := by rw [cell_of_row _ _ 1 _ _ (0, 0) (heap_alloc_new w _)]; rfl
  have q2 : (w.alloc (.cells #[.string s0, .slice (some ⟨g1, 0, none⟩) n1 n1, .slice (some ⟨g2, 0, none⟩) n2 n2, .slice (some ⟨g3, 0, none⟩) n3 n3, .string s4, .slice (some ⟨g4, 0, none⟩) n4 n4] 27)).cell? ⟨w.heap.size, 2, none⟩ = some (.slice (some ⟨g2, 0, none⟩) n2 n2) := by rw [cell_of_row _ _ 2 _ _ (0, 0) (heap_alloc_new w _)]; rfl
  have q3 : (w.alloc (.cells #[.string s0, .slice (some ⟨g1, 0, none⟩) n1 n1, .slice (some ⟨g2, 0, none⟩) n2 n2, .slice (some ⟨g3, 0, none⟩) n3 n3, .string s4, .slice (some ⟨g4, 0, none⟩) n4 n4] 27)).cell? ⟨w.heap.size, 3, none⟩ = some (.slice (some ⟨g3, 0, none⟩) n3 n3) := by rw [cell_of_row _ _ 3 _ _ (0, 0) (heap_alloc_new w _)]; rfl
  have q4 : (w.alloc (.cells #[.string s0, .slice (some ⟨g1, 0, none⟩) n1 n1, .slice (some ⟨g2, 0, none⟩) n2 n2, .slice (some ⟨g3, 0, none⟩) n3 n3, .string s4, .slice (some ⟨g4, 0, none⟩) n4 n4] 27)).cell? ⟨w.heap.size, 4, none⟩ = some (.string s4) := by rw [cell_of_row _ _ 4 _ _ (0, 0) (heap_alloc_new w _)]; rfl
  have q5 : (w.alloc (.cells #[.string s0, .slice (some ⟨g1, 0, none⟩) n1 n1, .slice (some ⟨g2, 0, none⟩) n2 n2, .slice (some ⟨g3, 0, none⟩) n3 n3, .string s4, .slice (some ⟨g4, 0, none⟩) n4 n4] 27)).cell? ⟨w.heap.size, 5, none⟩ = some (.slice (some ⟨g4, 0, none⟩) n4 n4) := by rw [cell_of_row _ _ 5 _ _ (0, 0) (heap_alloc_new w _)]; rfl
  have hW0 : w.heap.size < (w.alloc (.cells #[.string s0, .slice (some ⟨g1, 0, none⟩) n1 n1, .slice (some ⟨g2, 0, none⟩) n2 n2, .slice (some ⟨g3, 0, none⟩) n3 n3, .string s4, .slice (some ⟨g4, 0, none⟩) n4 n4] 27)).heap.size := by rw [World.size_alloc]; exact Nat.lt_succ_self _
  have C0 : Hid (∀ W', Later (w.alloc (.cells #[.string s0, .slice (some ⟨g1, 0, none⟩) n1 n1, .slice (some ⟨g2, 0, none⟩) n2 n2, .slice (some ⟨g3, 0, none⟩) n3 n3, .string s4, .slice (some ⟨g4, 0, none⟩) n4 n4] 27)) W' → W'.cell? ⟨w.heap.size, 0, none⟩ = some (.string s0) ∧ W'.cell? ⟨w.heap.size, 1, none⟩ = some (.slice (some ⟨g1, 0, none⟩) n1 n1) ∧ W'.cell? ⟨w.heap.size, 2, none⟩ = some (.slice (some ⟨g2, 0, none⟩) n2 n2) ∧ W'.cell? ⟨w.heap.size, 3, none⟩ = some (.slice (some ⟨g3, 0, none⟩) n3 n3) ∧ W'.cell? ⟨w.heap.size, 4, none⟩ = some (.string s4) ∧ W'.cell? ⟨w.heap.size, 5, none⟩ = some (.slice (some ⟨g4, 0, none⟩) n4 n4)) := Lib.hid (fun W' q => ⟨by rw [q.cell (p := ⟨w.heap.size, 0, none⟩) hW0]; exact q0, by rw [q.cell (p := ⟨w.heap.size, 1, none⟩) hW0]; exact q1, by rw [q.cell (p := ⟨w.heap.size, 2, none⟩) hW0]; exact q2, by rw [q.cell (p := ⟨w.heap.size, 3, none⟩) hW0]; exact q3, by rw [q.cell (p := ⟨w.heap.size, 4, none⟩) hW0]; exact q4, by rw [q.cell (p := ⟨w.heap.size, 5, none⟩) hW0]; exact q5⟩)
  have A0 : Hid (Later w (w.alloc (.cells #[.string s0, .slice (some ⟨g1, 0, none⟩) n1 n1, .slice (some ⟨g2, 0, none⟩) n2 n2, .slice (some ⟨g3, 0, none⟩) n3 n3, .string s4, .slice (some ⟨g4, 0, none⟩) n4 n4] 27))) := Lib.hid ((Later.refl _).alloc _)
  clear hW0
  by_cases hE : E = 0
  · subst hE
    obtain rfl : R = (p.ins ++ p.vrs).filter H := HV.out
    obtain ⟨hb1, hb2, hb3⟩ := WB.out (by first | rfl | trivial)
    clear WB
    go_enter Tryd.func36, Tryd.ntmps36
    go_wp2_with fail
    generalize (w.alloc (.cells #[.string s0, .slice (some ⟨g1, 0, none⟩) n1 n1, .slice (some ⟨g2, 0, none⟩) n2 n2, .slice (some ⟨g3, 0, none⟩) n3 n3, .string s4, .slice (some ⟨g4, 0, none⟩) n4 n4] 27)) = W0 at C0 A0 q0 q1 q2 q3 q4 q5 ⊢
    refine (PF.out _ A0.out).mono ?_
    rintro e w1 ⟨rfl, hb⟩
    have L1 := Lib.hid (show Later W0 w1 from hb)
    clear hb q0 q1 q2 q3 q4 q5
    obtain ⟨q0, q1, q2, q3, q4, q5⟩ := C0.out _ L1.out
    have ON := Lib.hid (ownT_newN w1 W0.heap.size L1.out.size)
    have LN : Hid (Later W0 (w1.alloc (.cells #[] 9))) := Lib.hid (L1.out.alloc _)
    go_wp2_with fail
    have hzw : w.heap.size < w1.heap.size := cell_lt q0
    go_cut [5] from 15 to 21 (fun v3 W => ∃ a5 c5, v3 = .slice a5 (n1 + n2) c5 ∧ Sts W a5 (n1 + n2) (p.ins ++ p.vrs) ∧ Later W0 W)
    case first =>
      have B1 := Lib.hid (A0.out.trans L1.out)
      go_region_law (first
        | (refine stepT rfl (.tmp 15) (.tmp 17) rfl W0.heap.size (.slice (some ⟨w1.heap.size, 0, none⟩) 0 0) [] p.ins g1 0 n1 n1 (OwnT.heapN ON.out rfl) (S1.out.later (by repeat (first | (with_reducible exact Later.refl _) | (with_reducible exact Hid.out (by assumption)) | (with_reducible refine Later.alloc ?_ _) | (with_reducible refine Later.setCell ?_ (by simp; omega) _) | (with_reducible refine Later.setCell ?_ (by simp) _) | (with_reducible refine Later.drewN ?_ _) | (with_reducible refine Later.drew ?_) | (with_reducible refine Later.trans ?_ (Hid.out (by assumption)))))) (by simp [Act.eval, Act.put]) (by simp [Act.eval, Act.put]) (by simp) (by omega) (Nat.le_trans LN.out.size (Nat.le_refl _)) ?_; intro v1 w2 ho hgr; have O1 := Lib.hid (E1.out ▸ ho); have L2 : Hid (Later W0 w2) := Lib.hid (Below.grown (show Later W0 _ from (by repeat (first | (with_reducible exact Later.refl _) | (with_reducible exact Hid.out (by assumption)) | (with_reducible refine Later.alloc ?_ _) | (with_reducible refine Later.setCell ?_ (by simp; omega) _) | (with_reducible refine Later.setCell ?_ (by simp) _) | (with_reducible refine Later.drewN ?_ _) | (with_reducible refine Later.drew ?_) | (with_reducible refine Later.trans ?_ (Hid.out (by assumption)))))) hgr (Later.size (show Later W0 _ from (by repeat (first | (with_reducible exact Later.refl _) | (with_reducible exact Hid.out (by assumption)) | (with_reducible refine Later.alloc ?_ _) | (with_reducible refine Later.setCell ?_ (by simp; omega) _) | (with_reducible refine Later.setCell ?_ (by simp) _) | (with_reducible refine Later.drewN ?_ _) | (with_reducible refine Later.drew ?_) | (with_reducible refine Later.trans ?_ (Hid.out (by assumption))))))) (fun j hj => by cases hj; exact L1.out.size)); obtain ⟨q0, q1, q2, q3, q4, q5⟩ := C0.out _ L2.out; have hz2 : w.heap.size < w2.heap.size := cell_lt q0; clear ho hgr)
        | (refine stepT rfl (.tmp 18) (.tmp 20) rfl W0.heap.size _ p.ins p.vrs g2 0 n2 n2 (OwnT.heapN O1.out rfl) (S2.out.later (A0.out.trans (by repeat (first | (with_reducible exact Later.refl _) | (with_reducible exact Hid.out (by assumption)) | (with_reducible refine Later.alloc ?_ _) | (with_reducible refine Later.setCell ?_ (by simp; omega) _) | (with_reducible refine Later.setCell ?_ (by simp) _) | (with_reducible refine Later.drewN ?_ _) | (with_reducible refine Later.drew ?_) | (with_reducible refine Later.trans ?_ (Hid.out (by assumption))))))) (by simp [Act.eval, Act.put]) (by simp [Act.eval, Act.put]) (by rw [S1.out.1]; omega) (by omega) (Later.size (show Later W0 _ from (by repeat (first | (with_reducible exact Later.refl _) | (with_reducible exact Hid.out (by assumption)) | (with_reducible refine Later.alloc ?_ _) | (with_reducible refine Later.setCell ?_ (by simp; omega) _) | (with_reducible refine Later.setCell ?_ (by simp) _) | (with_reducible refine Later.drewN ?_ _) | (with_reducible refine Later.drew ?_) | (with_reducible refine Later.trans ?_ (Hid.out (by assumption))))))) ?_; intro v2 w3 ho hgr; have O2 := Lib.hid ho; have L3 : Hid (Later W0 w3) := Lib.hid (Below.grown (show Later W0 _ from (by repeat (first | (with_reducible exact Later.refl _) | (with_reducible exact Hid.out (by assumption)) | (with_reducible refine Later.alloc ?_ _) | (with_reducible refine Later.setCell ?_ (by simp; omega) _) | (with_reducible refine Later.setCell ?_ (by simp) _) | (with_reducible refine Later.drewN ?_ _) | (with_reducible refine Later.drew ?_) | (with_reducible refine Later.trans ?_ (Hid.out (by assumption)))))) hgr (Later.size (show Later W0 _ from (by repeat (first | (with_reducible exact Later.refl _) | (with_reducible exact Hid.out (by assumption)) | (with_reducible refine Later.alloc ?_ _) | (with_reducible refine Later.setCell ?_ (by simp; omega) _) | (with_reducible refine Later.setCell ?_ (by simp) _) | (with_reducible refine Later.drewN ?_ _) | (with_reducible refine Later.drew ?_) | (with_reducible refine Later.trans ?_ (Hid.out (by assumption))))))) (fun j hj => (O1.out.lt j hj).1)); clear ho hgr))
      all_goals
        go_wp2_with fail
        go_meet
        case rel =>
          obtain ⟨a5, c5, e5, _, hs5, _⟩ := O2.out.sts SHO.out
          rw [HLS.out] at e5 hs5
          exact ⟨a5, c5, e5, hs5.later (by repeat (first | (with_reducible exact Later.refl _) | (with_reducible exact Hid.out (by assumption)) | (with_reducible refine Later.alloc ?_ _) | (with_reducible refine Later.setCell ?_ (by simp; omega) _) | (with_reducible refine Later.setCell ?_ (by simp) _) | (with_reducible refine Later.drewN ?_ _) | (with_reducible refine Later.drew ?_) | (with_reducible refine Later.trans ?_ (Hid.out (by assumption))))), (by repeat (first | (with_reducible exact Later.refl _) | (with_reducible exact Hid.out (by assumption)) | (with_reducible refine Later.alloc ?_ _) | (with_reducible refine Later.setCell ?_ (by simp; omega) _) | (with_reducible refine Later.setCell ?_ (by simp) _) | (with_reducible refine Later.drewN ?_ _) | (with_reducible refine Later.drew ?_) | (with_reducible refine Later.trans ?_ (Hid.out (by assumption)))))⟩
    case rest =>
      obtain ⟨a5, c5, rfl, hs5, hL5⟩ := hcut
      have L5 := Lib.hid hL5
      have S5 := Lib.hid hs5
      clear hs5 hL5 hzw q0 q1 q2 q3 q4 q5 L1 ON LN S1 S2 E1
      generalize p.ins ++ p.vrs = S at *
      obtain ⟨nn, hnn⟩ : ∃ nn, nn = n1 + n2 := ⟨_, rfl⟩
      have hn40 : nn ≤ 40 := by omega
      have HN := Lib.hid (HLS.out.trans hnn.symm)
      rw [← hnn] at S5 ⊢
      rw [HN.out] at HF HFL HLE
      clear hnn HLS
      go_wp2_with fail
      have O0 := Lib.hid (ownT_newN wc wc.heap.size (Nat.le_refl _))
      go_loopw [6, 7] (fun s i wr => ∃ k : Nat, k ≤ nn ∧ i = .int .i64 k ∧ OwnT wr wc.heap.size s ((S.take k).filter H) ∧ Later wc wr) (fun _ i _ => nn - (intOf i).toNat)
      case atStart => exact ⟨0, by omega, rfl, O0.out, (Later.refl _).alloc _⟩
      case round =>
        obtain ⟨k, hk, rfl, ho, hb⟩ := hrel
        have B6 := Lib.hid hb
        have O6 := Lib.hid ho
        have L6 := Lib.hid (L5.out.trans hb)
        obtain ⟨q0, q1, q2, q3, q4, q5⟩ := C0.out _ L6.out
        clear ho
        by_cases hlt : k < nn
        · obtain ⟨b, off, rfl, c0⟩ := (S5.out.later hb).at k hlt
          have HFK := Lib.hid (HF.out k hlt)
          have hlk := HLE.out k
          have EK := EQ.out (wx S k)
          have HGK := Lib.hid (UG.out (wx S k))
          have HNK := Lib.hid (UN.out (wx S k))
          have HYK := Lib.hid (UY.out (wx S k))
          obtain ⟨y, hy⟩ : ∃ y, y = wx S k := ⟨_, rfl⟩
          rw [← hy] at c0 EK HFK HGK HNK HYK
          obtain ⟨Y, hY⟩ : ∃ Y, Y = tx y := ⟨_, rfl⟩
          rw [← hY] at c0 EK
          have HY := Lib.hid hY
          obtain ⟨g, hg⟩ : ∃ g, g = decide (y = gd) := ⟨_, rfl⟩
          rw [← hg] at EK
          have HG := Lib.hid hg
          have HC0 := Lib.hid c0
          have HCY : Hid (∀ W', Later wr W' → W'.cell? ⟨b, off + k, none⟩ = some (.string Y)) := Lib.hid (fun W' h => by rw [h.cell (p := ⟨b, off + k, none⟩) (cell_lt HC0.out)]; exact HC0.out)
          have SUY := Lib.hid (fun a n cap L W h => s_Uses a n cap L y W h)
          rw [← hY] at SUY
          clear hy hY hg hb
          go_wp2_with fail
          go_quiet (fail)
          all_goals
            go_wp2_with fail
            go_loopw [8, 9] (fun ub i w8 => ∃ (j : Nat) (bb : Bool), j ≤ n4 ∧ i = .int .i64 j ∧ ub = .bool bb ∧ Later wr w8 ∧ Hid ((bb = true → H y = false) ∧ (bb = false → y ≠ gd ∧ ∀ i : Nat, i < j → usB (lrx M i) y = false))) (fun _ i _ => n4 - (intOf i).toNat)
            case atStart => exact ⟨0, g, by omega, rfl, rfl, (Later.refl _).drewN _, Lib.hid ⟨fun h => HGK.out (by have := HG.out; rw [h] at this; exact of_decide_eq_true this.symm), fun h => ⟨by have := HG.out; rw [h] at this; exact of_decide_eq_false this.symm, fun i hi => by omega⟩⟩⟩
            case round =>
              clear c0 q0 q1 q2 q3 q4 q5
              obtain ⟨j, bb, hj, rfl, rfl, hb8, HI⟩ := hrel
              have B8 := Lib.hid hb8
              have L8 := Lib.hid (L6.out.trans hb8)
              obtain ⟨q0, q1, q2, q3, q4, q5⟩ := C0.out _ L8.out
              have c0 := HCY.out _ hb8
              by_cases hltj : j < n4
              · obtain ⟨b2, off2, ta, tc, e4, d0, d1, d2⟩ := (P4.out.later (A0.out.trans L8.out)).2.2.1 j hltj
                cases e4
                rw [Nat.zero_add] at d1
                have CK := Lib.hid (fun W' h => SUY.out ta (lrx M j).length tc (lrx M j) W' (d2.later h))
                have HNJ := Lib.hid (HNK.out j hltj)
                have HST : Hid (bb = false → usB (lrx M j) y = false → y ≠ gd ∧ ∀ i : Nat, i < j + 1 → usB (lrx M i) y = false) := Lib.hid (fun h1 h2 => ⟨(HI.out.2 h1).1, fun i hi => by
                  rcases Nat.lt_or_ge i j with h | h
                  · exact (HI.out.2 h1).2 i h
                  · obtain rfl : i = j := by omega
                    exact h2⟩)
                generalize usB (lrx M j) y = ub at CK HNJ HST
                obtain ⟨q, hq⟩ : ∃ q, q = (lrx M j).length := ⟨_, rfl⟩
                rw [← hq] at d1 CK
                clear d0 d2 hq hb8
                cases bb
                · cases ub
                  · have HK2 := Lib.hid (HST.out rfl rfl)
                    go_wp2_with fail
                    go_quiet ((go_at_call 67; exact Calls.quiet_of_same ((CK.out _ ((Later.refl _).drewN _)).mono fun _ _ q => ⟨q.1, q.2.symm⟩)))
                    all_goals
                      go_wp2_with fail
                      go_roundw
                      case rel => exact ⟨j + 1, false, by omega, by go_num, rfl, B8.out.drewN _, Lib.hid ⟨fun h => (by cases h), fun _ => HK2.out⟩⟩
                      case measure => simp [intOf]; omega
                  · have HK2 := Lib.hid (HNJ.out rfl)
                    go_wp2_with fail
                    go_quiet ((go_at_call 67; exact Calls.quiet_of_same ((CK.out _ ((Later.refl _).drewN _)).mono fun _ _ q => ⟨q.1, q.2.symm⟩)))
                    all_goals
                      go_wp2_with fail
                      go_roundw
                      case rel => exact ⟨j + 1, true, by omega, by go_num, rfl, B8.out.drewN _, Lib.hid ⟨fun _ => HK2.out, fun h => by cases h⟩⟩
                      case measure => simp [intOf]; omega
                · have HK2 := Lib.hid (HI.out.1 rfl)
                  go_wp2_with fail
                  go_quiet (fail)
                  all_goals
                    go_wp2_with fail
                    go_roundw
                    case rel => exact ⟨j + 1, true, by omega, by go_num, rfl, B8.out.drewN _, Lib.hid ⟨fun _ => HK2.out, fun h => by cases h⟩⟩
                    case measure => simp [intOf]; omega
              · obtain rfl : j = n4 := by omega
                have O8 := Lib.hid (O6.out.later hb8)
                have B9 := Lib.hid (B6.out.trans hb8)
                clear hb8
                cases bb
                · have HHY := Lib.hid (HYK.out (HI.out.2 rfl).1 (HI.out.2 rfl).2)
                  have HE3 : Hid ((S.take (k + 1)).filter H = (S.take k).filter H ++ [y]) := Lib.hid (by have := HFK.out; rw [if_pos HHY.out] at this; exact this)
                  go_wp2_with (at_builtin; go_must (rw [HY.out]; refine app1T rfl _ _ rfl wc.heap.size _ _ _ ((S.take k).filter H) y O8.out rfl (by first | rfl | (simp only [World.heap_drewN, World.size_alloc]; rfl)) (by omega) B9.out.size ?_; intro v9 w9 ho9 hgr9))
                  have O9 := Lib.hid ho9
                  rw [← HE3.out] at O9
                  have B10 : Hid (Later wc w9) := Lib.hid (Below.grown B9.out hgr9 B9.out.size (fun j hj => (O8.out.lt j hj).1))
                  clear ho9 hgr9
                  go_roundw
                  case rel => exact ⟨k + 1, by omega, by go_num, O9.out, B10.out⟩
                  case measure => simp [intOf]; omega
                · have HE3 : Hid ((S.take (k + 1)).filter H = (S.take k).filter H) := Lib.hid (by have := HFK.out; rw [if_neg (by rw [HI.out.1 rfl]; simp)] at this; exact this)
                  go_wp2_with fail
                  go_roundw
                  case rel => exact ⟨k + 1, by omega, by go_num, by rw [HE3.out]; exact O8.out, B9.out⟩
                  case measure => simp [intOf]; omega
        · obtain rfl : k = nn := by omega
          have HD : Hid ((S.take k).filter H = S.filter H) := Lib.hid HFL.out
          clear hb
          go_wp2_with fail
          refine bodyPost_ret (v := .tuple #[_, .int .i64 0]) (by simp [results, Tryd.results36, go_sem, *]; rfl) rfl ⟨_, rfl, (by rw [← HD.out]; exact ownT_monoN O6.out (Nat.le_trans A0.out.size L5.out.size)), A0.out.trans L6.out⟩
  · have hne : (E == 0) = false := by simpa using hE
    have hne2 : (E != 0) = true := by simpa using hE
    obtain rfl : R = [] := by have := HV.out; rw [if_neg hE] at this; exact this
    clear hE
    go_enter Tryd.func36, Tryd.ntmps36
    go_wp2_with fail
    generalize (w.alloc (.cells #[.string s0, .slice (some ⟨g1, 0, none⟩) n1 n1, .slice (some ⟨g2, 0, none⟩) n2 n2, .slice (some ⟨g3, 0, none⟩) n3 n3, .string s4, .slice (some ⟨g4, 0, none⟩) n4 n4] 27)) = W0 at C0 A0 q0 q1 q2 q3 q4 q5 ⊢
    refine (PF.out _ A0.out).mono ?_
    rintro e w1 ⟨rfl, hb⟩
    have B1 := Lib.hid (Later.trans A0.out hb)
    clear hb q0 q1 q2 q3 q4 q5
    go_wp2_with fail
    all_goals
      refine bodyPost_ret (v := .tuple #[.slice none 0 0, .int .i64 E]) (by simp [results, Tryd.results36, go_sem, *]) rfl ⟨_, rfl, ownT_none _ _, B1.out⟩
end Go.Proofs.YtokipobjpinhmaaDoor
namespace Go.Proofs.YtokipobjpinhmaaDoor
open Go.RowKit Go.Shelf
set_option maxHeartbeats 4000000
set_option maxRecDepth 100000
set_option linter.unusedVariables false
set_option linter.unusedSimpArgs false
theorem l_markTextB (m : Nat) (w : World) (h0 : 1 ≤ m) (h1 : m ≤ 1000000000000000) : Calls Tryd.prog 69 #[.int .i64 m] w fun e w' => e = .returned (.string (tx (mkX m))) ∧ Later w w' := by
  obtain ⟨D, hD⟩ : ∃ D, D = Lib.decDigits m := ⟨_, rfl⟩
  have HM : Hid (mkX m = 109 :: D) := Lib.hid (by rw [hD]; rfl)
  have HD := Lib.hid hD
  rw [HM.out]
  have hDl : D.length ≤ 16 := by rw [hD]; exact dec_len1 15 m (by omega)
  clear hD
  go_enter Tryd.func69, Tryd.ntmps69
  go_wp2_with fail
  go_loopw [0, 3] (fun i o wr => ∃ (j : Nat) (O : List UInt8), i = .int .i64 j ∧ o = .string (tx O) ∧ j ≤ m ∧ Hid ((if j = 0 then O else Lib.decDigits j ++ O) = D) ∧ Later w wr) (fun i _ _ => (intOf i).toNat)
  case atStart => exact ⟨m, [], rfl, rfl, by omega, Lib.hid (by rw [if_neg (by omega), List.append_nil, HD.out]), Later.refl _⟩
  case round =>
    obtain ⟨j, O, rfl, rfl, hj, HO, hb⟩ := hrel
    have B3 := Lib.hid hb
    clear hb
    have hOl : O.length ≤ 16 := by
      have h := congrArg List.length HO.out
      split at h
      · omega
      · rw [List.length_append] at h; omega
    have hz : (tx O).size ≤ 1000 := by rw [tx_size]; omega
    by_cases hj0 : j = 0
    · subst hj0
      have HE : Hid (O = D) := Lib.hid (by have := HO.out; rwa [if_pos rfl] at this)
      go_wp2_with fail
      go_ret
      rw [← HE.out]
      exact ⟨rfl, B3.out⟩
    · have hcv := conv1 (48 + (j : Int) % 10) (by omega) (by omega)
      have e2 : (j : Int).tmod 10 = (j : Int) % 10 := Int.tmod_eq_emod_of_nonneg (by omega)
      have e1 : IntKind.i64.wrap ((j : Int).tdiv 10) = ((j / 10 : Nat) : Int) := by rw [Int.tdiv_eq_ediv_of_nonneg (by omega), IntWalk.i64_in _ (by omega)]; omega
      have e3 : IntKind.i64.wrap (48 + (j : Int) % 10) = 48 + (j : Int) % 10 := IntWalk.i64_in _ (by omega)
      have e4 : IntKind.u8.wrap (48 + (j : Int) % 10) = 48 + (j : Int) % 10 := IntWalk.u8_in _ (by omega)
      have HN : Hid ((if j / 10 = 0 then UInt8.ofNat (48 + (j : Int) % 10).toNat :: O else Lib.decDigits (j / 10) ++ (UInt8.ofNat (48 + (j : Int) % 10).toNat :: O)) = D) := Lib.hid (by
        have h := HO.out
        rw [if_neg hj0] at h
        rw [← h, show (48 + (j : Int) % 10).toNat = 48 + j % 10 by omega]
        by_cases h9 : j / 10 = 0
        · rw [if_pos h9, dec_one j (by omega)]
          show _ = [dg1 j] ++ O
          rw [show j % 10 = j by omega]; rfl
        · rw [if_neg h9, dec_more j (by omega)]
          simp [dg1])
      have HNY : Hid (∀ Y, Y = [UInt8.ofNat (48 + (j : Int) % 10).toNat] → (if j / 10 = 0 then Y ++ O else Lib.decDigits (j / 10) ++ (Y ++ O)) = D) := Lib.hid (by rintro Y rfl; exact HN.out)
      obtain ⟨Y, hY⟩ : ∃ Y, Y = [UInt8.ofNat (48 + (j : Int) % 10).toNat] := ⟨_, rfl⟩
      have HN2 := Lib.hid (HNY.out Y hY)
      have hz1 : (tx Y).size = 1 := by rw [hY]; rfl
      rw [← hY] at hcv
      clear hY HN HNY
      have hlt : decide ((0 : Int) < (j : Int)) = true := by simp; omega
      have hlt2 : (0 : Int) < (j : Int) := by omega
      go_wp2_with fail
      go_roundw
      case rel => exact ⟨j / 10, _, rfl, congrArg Value.string (tx_app _ _), by omega, HN2, (by repeat (first | (with_reducible exact Later.refl _) | (with_reducible exact Hid.out (by assumption)) | (with_reducible refine Later.alloc ?_ _) | (with_reducible refine Later.setCell ?_ (by simp; omega) _) | (with_reducible refine Later.setCell ?_ (by simp) _) | (with_reducible refine Later.drewN ?_ _) | (with_reducible refine Later.drew ?_) | (with_reducible refine Later.trans ?_ (Hid.out (by assumption)))))⟩
      case measure => simp [intOf]; omega
/-- 'w' is w but for blocks of S; their cells are still there, and may still be written' -/
structure Tch (S : Nat → Prop) (w w' : World) : Prop where
  os : w'.os = w.os
  tape : w'.tape = w.tape
  output : w'.output = w.output
  size : w.heap.size ≤ w'.heap.size
  block : ∀ k, k < w.heap.size → ¬ S k → w'.heap[k]? = w.heap[k]?
  cell : ∀ b j v, w.cell? ⟨b, j, none⟩ = some v → ∃ u, w'.cell? ⟨b, j, none⟩ = some u
  wrt : ∀ b, Wrt w b → Wrt w' b
theorem Tch.refl (S : Nat → Prop) (w : World) : Tch S w w := ⟨rfl, rfl, rfl, Nat.le_refl _, fun _ _ _ => rfl, fun _ _ v h => ⟨v, h⟩, fun _ h => h⟩
theorem Tch.trans {S : Nat → Prop} {a b c : World} (h : Tch S a b) (k : Tch S b c) : Tch S a c :=
  ⟨k.os.trans h.os, k.tape.trans h.tape, k.output.trans h.output, Nat.le_trans h.size k.size, fun i hi hn => (k.block i (Nat.lt_of_lt_of_le hi h.size) hn).trans (h.block i hi hn), fun b j v hv => by obtain ⟨u, hu⟩ := h.cell b j v hv; exact k.cell b j u hu, fun b hb => k.wrt b (h.wrt b hb)⟩
theorem Tch.mono {S S' : Nat → Prop} {a b : World} (h : Tch S a b) (hs : ∀ i, S i → S' i) : Tch S' a b :=
  ⟨h.os, h.tape, h.output, h.size, fun i hi hn => h.block i hi (fun q => hn (hs i q)), h.cell, h.wrt⟩
theorem Tch.of_later {S : Nat → Prop} {a b : World} (h : Later a b) : Tch S a b :=
  ⟨h.os, h.tape, h.output, h.size, fun i hi _ => h.block i hi, fun b j v hv => ⟨v, by rw [h.cell (p := ⟨b, j, none⟩) (cell_lt hv)]; exact hv⟩, fun b hb => hb.later h⟩
theorem Tch.set {S : Nat → Prop} {a b : World} (h : Tch S a b) {g j : Nat} (hg : S g) (u : Value) (hc : ∃ v, b.cell? ⟨g, j, none⟩ = some v) : Tch S a (b.setCell ⟨g, j, none⟩ u) := by
  have q := (Below.refl 0 b).setCell (p := ⟨g, j, none⟩) (Nat.zero_le _) u
  refine h.trans ⟨q.os, q.tape, q.output, by rw [World.size_setCell]; exact Nat.le_refl _, fun i hi hn => Below.heap_setCell b ⟨g, j, none⟩ u i (fun e => hn (by rw [e]; exact hg)), fun b' j' v hv => ?_, fun b' hb => hb.set _ _⟩
  by_cases e : b' = g ∧ j' = j
  · obtain ⟨rfl, rfl⟩ := e
    obtain ⟨z, hz⟩ := hc
    exact ⟨u, World.cell?_setCell_same _ _ _ (by first | exact hz | (rw [hz]; rfl) | (simp [hz]))⟩
  · exact ⟨v, by rw [World.cell?_setCell_other _ _ _ _ (fun e2 => e (by cases e2; exact ⟨rfl, rfl⟩))]; exact hv⟩
/-- what lies in other blocks stays -/
theorem Tch.cell_far {S : Nat → Prop} {a b : World} (h : Tch S a b) {g j : Nat} {v : Value} (hg : ¬ S g) (hc : a.cell? ⟨g, j, none⟩ = some v) : b.cell? ⟨g, j, none⟩ = some v := by
  have := h.block g (cell_lt hc) hg
  unfold World.cell? at hc ⊢
  simp only [this]; exact hc
/-- 'block g may be written, and has n cells from place o on' -/
def Row (w : World) (g o n : Nat) : Prop := Wrt w g ∧ ∀ j, j < n → ∃ v, w.cell? ⟨g, o + j, none⟩ = some v
theorem Row.tch {S : Nat → Prop} {w w' : World} {g o n : Nat} (h : Row w g o n) (ht : Tch S w w') : Row w' g o n :=
  ⟨ht.wrt g h.1, fun j hj => by obtain ⟨v, hv⟩ := h.2 j hj; exact ht.cell g (o + j) v hv⟩
def MkS (g : Nat) : Nat → Prop := fun i => i = g
/-- a number of marks, handed back -/
def Mkd (S : Nat → Prop) (w : World) (c : Nat) (e : Ending) (w' : World) : Prop := e = .returned (.int .i64 (c : Int)) ∧ Tch S w w'
theorem l_markStringS' (g n c : Nat) (w : World) (hr : Row w g 0 n) (hn : n ≤ 1048576) (hc1 : 1 ≤ c) (hc2 : c ≤ 100000000000000) :
    Calls Tryd.prog 34 #[.slice (some ⟨g, 0, none⟩) n n, .int .i64 c] w (Mkd (MkS g) w (c + n)) := by
  have HR := Lib.hid hr
  have HV : Hid (∀ w', Tch (MkS g) w w' → Mkd (MkS g) w (c + n) (.returned (.int .i64 ((c : Int) + (n : Int)))) w') := Lib.hid (fun w' h => ⟨by congr 2, h⟩)
  clear hr
  go_enter Tryd.func34, Tryd.ntmps34
  go_wp2_with fail
  go_loopw [1, 5] (fun m i wr => ∃ k : Nat, k ≤ n ∧ i = .int .i64 k ∧ m = .int .i64 ((c : Int) + (k : Int)) ∧ Tch (MkS g) w wr) (fun _ i _ => n - (intOf i).toNat)
  case atStart => exact ⟨0, by omega, rfl, by simp, Tch.refl _ _⟩
  case round =>
    obtain ⟨k, hk, rfl, rfl, ht⟩ := hrel
    have HT := Lib.hid ht
    clear ht
    by_cases hlt : k < n
    · have MT := Lib.hid (fun W => l_markTextB (c + k) W (by omega) (by omega))
      obtain ⟨X, hX⟩ : ∃ X, X = tx (mkX (c + k)) := ⟨_, rfl⟩
      rw [← hX] at MT
      have em : ((c + k : Nat) : Int) = (c : Int) + (k : Int) := by omega
      rw [em] at MT
      clear hX em
      go_wp2_with fail
      refine (MT.out _).mono ?_
      rintro e w4 ⟨rfl, hb⟩
      have T4 := Lib.hid (HT.out.trans (Tch.of_later (S := MkS g) hb))
      obtain ⟨hW, hC⟩ := HR.out.tch T4.out
      obtain ⟨z, hz⟩ := hC k hlt
      rw [Nat.zero_add] at hz
      have hf := hW.2 k
      have T5 := Lib.hid (T4.out.set (g := g) (j := k) rfl (.string X) ⟨z, hz⟩)
      clear hb hW hC
      go_wp2_with fail
      go_roundw
      case rel => exact ⟨k + 1, by omega, by go_num, by first | go_num | (congr 1; omega), T5.out⟩
      case measure => simp [intOf]; omega
    · obtain rfl : k = n := by omega
      go_wp2_with fail
      go_ret
      exact HV.out _ HT.out
theorem l_markTermS0 (a : Option Addr) (cap c : Nat) (S : Nat → Prop) (w : World) (hc2 : c ≤ 100000000000000) :
    Calls Tryd.prog 44 #[.slice a 0 cap, .int .i64 c] w (Mkd S w (c + 3 * 0)) := by
  have HV : Hid (Mkd S w (c + 3 * 0) (.returned (.int .i64 (c : Int))) w) := Lib.hid ⟨by simp, Tch.refl _ _⟩
  go_enter Tryd.func44, Tryd.ntmps44
  go_wp2_with fail
  go_loop [1, 5] (fun m i => i = .int .i64 0 ∧ m = .int .i64 c) (fun _ _ => 0)
  case atStart => exact ⟨rfl, rfl⟩
  case round =>
    obtain ⟨rfl, rfl⟩ := hrel
    go_wp2_with fail
    go_ret
    exact HV.out
theorem l_markTermS' (g o n cap c : Nat) (w : World) (hr : Row w g o (n * 3)) (hn : n ≤ 1048576) (hc1 : 1 ≤ c) (hc2 : c ≤ 100000000000000) :
    Calls Tryd.prog 44 #[.slice (some ⟨g, o, none⟩) n cap, .int .i64 c] w (Mkd (MkS g) w (c + 3 * n)) := by
  have HR := Lib.hid hr
  have HV : Hid (∀ w', Tch (MkS g) w w' → Mkd (MkS g) w (c + 3 * n) (.returned (.int .i64 ((c : Int) + 3 * (n : Int)))) w') := Lib.hid (fun w' h => ⟨by congr 2, h⟩)
  clear hr
  go_enter Tryd.func44, Tryd.ntmps44
  go_wp2_with fail
  go_loopw [1, 5] (fun m i wr => ∃ k : Nat, k ≤ n ∧ i = .int .i64 k ∧ m = .int .i64 ((c : Int) + 3 * (k : Int)) ∧ Tch (MkS g) w wr) (fun _ i _ => n - (intOf i).toNat)
  case atStart => exact ⟨0, by omega, rfl, by simp, Tch.refl _ _⟩
  case round =>
    obtain ⟨k, hk, rfl, rfl, ht⟩ := hrel
    have HT := Lib.hid ht
    by_cases hlt : k < n
    · have MT := Lib.hid (fun W => l_markTextB (c + 1 + 3 * k) W (by omega) (by omega))
      obtain ⟨X, hX⟩ : ∃ X, X = tx (mkX (c + 1 + 3 * k)) := ⟨_, rfl⟩
      rw [← hX] at MT
      have em : ((c + 1 + 3 * k : Nat) : Int) = (c : Int) + 3 * (k : Int) + 1 := by omega
      rw [em] at MT
      obtain ⟨hW3, hC3⟩ := HR.out.tch ht
      obtain ⟨z, hz⟩ := hC3 (k * 3) (by omega)
      have hz' : wr.cell? ⟨g, o + k * 3, none⟩ = some z := by exact hz
      have hf := hW3.2 (o + k * 3)
      have T3 := Lib.hid (HT.out.set (g := g) (j := o + k * 3) rfl (.int .i64 ((c : Int) + 3 * (k : Int))) ⟨z, hz'⟩)
      clear hX em ht hW3 hC3 hz
      go_wp2_with fail
      refine (MT.out _).mono ?_
      rintro e w4 ⟨rfl, hb⟩
      have T4 := Lib.hid (T3.out.trans (Tch.of_later (S := MkS g) hb))
      obtain ⟨hW, hC⟩ := HR.out.tch T4.out
      obtain ⟨z1, hz1⟩ := hC (k * 3 + 1) (by omega)
      obtain ⟨z2, hz2⟩ := hC (k * 3 + 2) (by omega)
      rw [← Nat.add_assoc] at hz1 hz2
      have hf1 := hW.2 (o + k * 3 + 1)
      have hf2 := hW.2 (o + k * 3 + 2)
      have TS := (Tch.refl (MkS g) w4).set (g := g) (j := o + k * 3 + 1) rfl (.string X) ⟨z1, hz1⟩
      have T5 := Lib.hid ((T4.out.trans TS).set (g := g) (j := o + k * 3 + 2) rfl (.int .i64 ((c : Int) + 3 * (k : Int) + 1 + 1)) (TS.cell _ _ _ hz2))
      clear hb hW hC TS hz' hf
      go_wp2_with fail
      go_roundw
      case rel => exact ⟨k + 1, by omega, by go_num, by first | go_num | (congr 1; omega), T5.out⟩
      case measure => simp [intOf]; omega
    · obtain rfl : k = n := by omega
      clear ht
      go_wp2_with fail
      go_ret
      exact HV.out _ HT.out
/-- 'block g holds n lines that may be written, their terms in blocks of S other than g' -/
def Rwl (S : Nat → Prop) (w : World) (g n : Nat) : Prop :=
  Wrt w g ∧ S g ∧ ∀ j, j < n → (∃ v, w.cell? ⟨g, j * 2, none⟩ = some v) ∧ ∃ ta m tc, w.cell? ⟨g, j * 2 + 1, none⟩ = some (.slice ta m tc) ∧ m ≤ 1048576 ∧ (m = 0 ∨ ∃ tb o, ta = some ⟨tb, o, none⟩ ∧ Row w tb o (m * 3) ∧ S tb ∧ tb ≠ g)
/-- the lines' slices stay -/
def Sls (w w' : World) (g n : Nat) : Prop := ∀ j, j < n → ∀ v, w.cell? ⟨g, j * 2 + 1, none⟩ = some v → w'.cell? ⟨g, j * 2 + 1, none⟩ = some v
theorem Rwl.keep {S : Nat → Prop} {w w' : World} {g n : Nat} (h : Rwl S w g n) (ht : Tch S w w') (hs : Sls w w' g n) : Rwl S w' g n := by
  obtain ⟨h1, h2, h3⟩ := h
  refine ⟨ht.wrt g h1, h2, fun j hj => ?_⟩
  obtain ⟨⟨v, hv⟩, ta, m, tc, hc, hm, hr⟩ := h3 j hj
  refine ⟨ht.cell _ _ v hv, ta, m, tc, hs j hj _ hc, hm, ?_⟩
  rcases hr with h | ⟨tb, o, e, h4, h5⟩
  · exact .inl h
  · exact .inr ⟨tb, o, e, h4.tch ht, h5⟩
theorem Sls.refl (w : World) (g n : Nat) : Sls w w g n := fun _ _ _ h => h
theorem Sls.trans {a b c : World} {g n : Nat} (h : Sls a b g n) (k : Sls b c g n) : Sls a c g n := fun j hj v hv => k j hj v (h j hj v hv)
theorem Sls.of_later {a b : World} {g n : Nat} (h : Later a b) : Sls a b g n := fun j hj v hv => by rw [h.cell (p := ⟨g, j * 2 + 1, none⟩) (cell_lt hv)]; exact hv
theorem Sls.of_far {S : Nat → Prop} {a b : World} {g n : Nat} (h : Tch S a b) (hg : ¬ S g) : Sls a b g n := fun j hj v hv => h.cell_far hg hv
theorem Sls.set {a b : World} {g n : Nat} (h : Sls a b g n) (k : Nat) (u : Value) : Sls a (b.setCell ⟨g, k * 2, none⟩ u) g n := fun j hj v hv => by
  rw [World.cell?_setCell_other _ _ _ _ (fun e2 => by have e3 := congrArg Addr.off e2; simp at e3; omega)]; exact h j hj v hv
def MkdL (S : Nat → Prop) (w : World) (e : Ending) (w' : World) : Prop := ∃ c : Nat, e = .returned (.int .i64 (c : Int)) ∧ Tch S w w'
theorem l_markLineS' (S : Nat → Prop) (g n c : Nat) (w : World) (hr : Rwl S w g n) (hn : n ≤ 1048576) (hc1 : 1 ≤ c) (hc2 : c ≤ 100000000) :
    Calls Tryd.prog 68 #[.slice (some ⟨g, 0, none⟩) n n, .int .i64 c] w (MkdL S w) := by
  have HR := Lib.hid hr
  have HV : Hid (∀ (d : Nat) w', Tch S w w' → MkdL S w (.returned (.int .i64 (d : Int))) w') := Lib.hid (fun d w' h => ⟨d, rfl, h⟩)
  clear hr
  go_enter Tryd.func68, Tryd.ntmps68
  go_wp2_with fail
  go_loopw [1, 5] (fun m i wr => ∃ k d : Nat, k ≤ n ∧ i = .int .i64 k ∧ m = .int .i64 (d : Int) ∧ 1 ≤ d ∧ d ≤ c + k * 4000000 ∧ Tch S w wr ∧ Sls w wr g n) (fun _ i _ => n - (intOf i).toNat)
  case atStart => exact ⟨0, c, by omega, rfl, rfl, hc1, by omega, Tch.refl _ _, Sls.refl _ _ _⟩
  case round =>
    obtain ⟨k, d, hk, rfl, rfl, hd1, hd2, ht, hs⟩ := hrel
    have HT := Lib.hid ht
    have HSL := Lib.hid hs
    clear ht hs
    by_cases hlt : k < n
    · have MT := Lib.hid (fun W => l_markTextB d W (by omega) (by omega))
      obtain ⟨X, hX⟩ : ∃ X, X = tx (mkX d) := ⟨_, rfl⟩
      rw [← hX] at MT
      clear hX
      go_wp2_with fail
      refine (MT.out _).mono ?_
      rintro e w4 ⟨rfl, hb⟩
      have T4 := Lib.hid (HT.out.trans (Tch.of_later (S := S) hb))
      have SL4 := Lib.hid (HSL.out.trans (Sls.of_later hb))
      obtain ⟨hW, hSg, hC⟩ := HR.out.keep T4.out SL4.out
      obtain ⟨⟨z, hz⟩, _⟩ := hC k hlt
      have hf := hW.2 (k * 2)
      have T5 := Lib.hid (T4.out.set (g := g) (j := k * 2) hSg (.string X) ⟨z, hz⟩)
      have SL5 := Lib.hid (SL4.out.set k (.string X))
      have R5 := Lib.hid (HR.out.keep T5.out SL5.out)
      obtain ⟨_, _, hC5⟩ := R5.out
      obtain ⟨_, ta, m, tc, hc, hm, hrow⟩ := hC5 k hlt
      have ed : ((d : Int) + 1) = ((d + 1 : Nat) : Int) := by omega
      have HM : Hid (∀ W5, W5 = w4.setCell ⟨g, k * 2, none⟩ (.string X) → Calls Tryd.prog 44 #[.slice ta m tc, .int .i64 ((d : Int) + 1)] W5 fun e w' => e = .returned (.int .i64 ((d + 1 + 3 * m : Nat) : Int)) ∧ Tch S W5 w' ∧ Sls W5 w' g n) := Lib.hid (by
        rintro W5 rfl
        rw [ed]
        rcases hrow with rfl | ⟨tb, o, rfl, h4, h5, h6⟩
        · exact (l_markTermS0 ta tc (d + 1) (fun _ => False) _ (by omega)).mono fun e w' h => ⟨h.1, h.2.mono (fun i q => q.elim), Sls.of_far h.2 (fun q => q)⟩
        · exact (l_markTermS' tb o m tc (d + 1) _ h4 hm (by omega) (by omega)).mono fun e w' h => ⟨h.1, h.2.mono (fun i q => by rw [show i = tb from q]; exact h5), Sls.of_far h.2 (fun q => h6 (show g = tb from q).symm)⟩)
      have hcc : w4.cell? ⟨g, k * 2 + 1, none⟩ = some (.slice ta m tc) := by
        have := hc
        rw [World.cell?_setCell_other _ _ _ _ (fun e2 => by have e3 := congrArg Addr.off e2; simp at e3 <;> omega)] at this
        exact this
      clear hb hW hSg hC hC5 hrow hc ed
      generalize hW5 : w4.setCell ⟨g, k * 2, none⟩ (.string X) = W5 at T5 SL5 R5 HM
      have HM := Lib.hid (HM.out _ rfl)
      subst hW5
      go_wp2_with fail
      refine HM.out.mono ?_
      rintro e w6 ⟨rfl, h1, h2⟩
      have T6 := Lib.hid (T5.out.trans h1)
      have SL6 := Lib.hid (SL5.out.trans h2)
      clear h1 h2 hz hf hcc
      go_wp2_with fail
      go_roundw
      case rel => exact ⟨k + 1, d + 1 + 3 * m, by omega, by go_num, rfl, by omega, by omega, T6.out, SL6.out⟩
      case measure => simp [intOf]; omega
    · obtain rfl : k = n := by omega
      go_wp2_with fail
      go_ret
      exact HV.out _ _ HT.out
theorem Sts.row {w : World} {g n : Nat} {W : List (List UInt8)} (h : Stw w g n W) : Row w g 0 n := by
  refine ⟨h.2, fun j hj => ?_⟩
  obtain ⟨b, off, e, hc⟩ := h.1.at j hj
  cases e
  exact ⟨_, hc⟩
theorem Lnw.rwl {base : Nat} {w : World} {g n : Nat} {M : List Lne} (h : Lnw base w g n M) : Rwl (fun i => base ≤ i ∧ i < w.heap.size) w g n := by
  obtain ⟨h1, h2, h3⟩ := h
  refine ⟨h3, ⟨h2, h3.1⟩, fun j hj => ?_⟩
  obtain ⟨b, off, ta, tc, e, hc, hd, he, hf⟩ := h1.2.2.2.1 j hj
  cases e
  rw [Nat.zero_add] at hc hd
  have hlen : (lrx M j).length ≤ 1048576 := (h1.2.2.2.2 _ (lx_mem M j (by rw [h1.1]; exact hj))).2
  refine ⟨⟨_, hc⟩, ta, _, tc, hd, hlen, ?_⟩
  by_cases hz : (lrx M j).length = 0
  · exact .inl hz
  · obtain ⟨tb, o, e, _⟩ := he.2.2.1 0 (by omega)
    obtain ⟨f1, f2, f3⟩ := hf _ e
    refine .inr ⟨tb, o, e, ⟨f2, fun i hi => ?_⟩, ⟨f1, f2.1⟩, f3⟩
    obtain ⟨tb', o', e', d0, d1, d2⟩ := he.2.2.1 (i / 3) (by omega)
    rw [e] at e'
    cases e'
    rcases (show i = i / 3 * 3 ∨ i = i / 3 * 3 + 1 ∨ i = i / 3 * 3 + 2 by omega) with h | h | h
    · rw [h]; exact ⟨_, d0⟩
    · rw [h, ← Nat.add_assoc]; exact ⟨_, d1⟩
    · rw [h, ← Nat.add_assoc]; exact ⟨_, d2⟩
end Go.Proofs.YtokipobjpinhmaaDoor
namespace Go.Proofs.YtokipobjpinhmaaDoor
open Go.RowKit Go.Shelf
set_option maxHeartbeats 4000000
set_option maxRecDepth 100000
set_option linter.unusedVariables false
set_option linter.unusedSimpArgs false
theorem l_markProgram (base : Nat) (v : Value) (p : Prg) (W0 w : World) (hp : PgC base W0 v p) (hl : Later W0 w) (hs : PShort p) :
    Calls Tryd.prog 30 #[v, .int .i64 1] w (MkdL (fun i => base ≤ i ∧ i < W0.heap.size) w) := by
  obtain ⟨g1, g2, g3, g4, rfl, ⟨e1, e2, e3, f1, f2, f3⟩, h1, h2, h3, h4, _, _⟩ := hp
  have m1 := hs.2.1.1; have m2 := hs.2.2.1.1; have m3 := hs.2.2.2.1.1; have m4 := hs.2.2.2.2.2.1
  obtain ⟨S, hS⟩ : ∃ S : Nat → Prop, S = fun i => base ≤ i ∧ i < W0.heap.size := ⟨_, rfl⟩
  rw [← hS]
  have S1 : Hid (S g1) := Lib.hid (by rw [hS]; exact ⟨e1, h1.2.1⟩)
  have S2 : Hid (S g2) := Lib.hid (by rw [hS]; exact ⟨e2, h2.2.1⟩)
  have S3 : Hid (S g3) := Lib.hid (by rw [hS]; exact ⟨e3, h3.2.1⟩)
  have NW : Hid (¬ S w.heap.size) := Lib.hid (by rw [hS]; intro h; have := hl.size; have := h.2; omega)
  have R1 := Lib.hid (Sts.row (h1.later hl))
  have R2 := Lib.hid (Sts.row (h2.later hl))
  have R3 := Lib.hid (Sts.row (h3.later hl))
  have R4 : Hid (Rwl S w g4 p.lns.length) := Lib.hid (by
    rw [hS]
    exact Rwl.keep (h4.rwl) (Tch.of_later hl) (Sls.of_later hl))
  have HV : Hid (∀ (d : Nat) w', Tch S w w' → MkdL S w (.returned (.int .i64 (d : Int))) w') := Lib.hid (fun d w' h => ⟨d, rfl, h⟩)
  have G14 : g1 ≠ g4 := Nat.ne_of_lt f1
  have G24 : g2 ≠ g4 := Nat.ne_of_lt f2
  have G34 : g3 ≠ g4 := Nat.ne_of_lt f3
  clear hS h1 h2 h3 h4 e1 e2 e3 f1 f2 f3 hs hl
  obtain ⟨s0, hs0⟩ : ∃ q, q = tx p.nm := ⟨_, rfl⟩
  obtain ⟨s4, hs4⟩ : ∃ q, q = tx p.grd := ⟨_, rfl⟩
  obtain ⟨n1, hn1⟩ : ∃ q, q = p.ins.length := ⟨_, rfl⟩
  obtain ⟨n2, hn2⟩ : ∃ q, q = p.vrs.length := ⟨_, rfl⟩
  obtain ⟨n3, hn3⟩ : ∃ q, q = p.outs.length := ⟨_, rfl⟩
  obtain ⟨n4, hn4⟩ : ∃ q, q = p.lns.length := ⟨_, rfl⟩
  simp only [← hs0, ← hs4, ← hn1, ← hn2, ← hn3, ← hn4] at R1 R2 R3 R4 m1 m2 m3 m4 ⊢
  clear hs0 hs4 hn1 hn2 hn3 hn4
  have q0 : (w.alloc (.cells #[.string s0, .slice (some ⟨g1, 0, none⟩) n1 n1, .slice (some ⟨g2, 0, none⟩) n2 n2, .slice (some ⟨g3, 0, none⟩) n3 n3, .string s4, .slice (some ⟨g4, 0, none⟩) n4 n4] 27)).cell? ⟨w.heap.size, 0, none⟩ = some (.string s0) := by rw [cell_of_row _ _ 0 _ _ (0, 0) (heap_alloc_new w _)]; rfl
  have q1 : (w.alloc (.cells #[.string s0, .slice (some ⟨g1, 0, none⟩) n1 n1, .slice (some ⟨g2, 0, none⟩) n2 n2, .slice (some ⟨g3, 0, none⟩) n3 n3, .string s4, .slice (some ⟨g4, 0, none⟩) n4 n4] 27)).cell? ⟨w.heap.size, 1, none⟩ = some (.slice (some ⟨g1, 0, none⟩) n1 n1) := by rw [cell_of_row _ _ 1 _ _ (0, 0) (heap_alloc_new w _)]; rfl
  have q2 : (w.alloc (.cells #[.string s0, .slice (some ⟨g1, 0, none⟩) n1 n1, .slice (some ⟨g2, 0, none⟩) n2 n2, .slice (some ⟨g3, 0, none⟩) n3 n3, .string s4, .slice (some ⟨g4, 0, none⟩) n4 n4] 27)).cell? ⟨w.heap.size, 2, none⟩ = some (.slice (some ⟨g2, 0, none⟩) n2 n2) := by rw [cell_of_row _ _ 2 _ _ (0, 0) (heap_alloc_new w _)]; rfl
  have q3 : (w.alloc (.cells #[.string s0, .slice (some ⟨g1, 0, none⟩) n1 n1, .slice (some ⟨g2, 0, none⟩) n2 n2, .slice (some ⟨g3, 0, none⟩) n3 n3, .string s4, .slice (some ⟨g4, 0, none⟩) n4 n4] 27)).cell? ⟨w.heap.size, 3, none⟩ = some (.slice (some ⟨g3, 0, none⟩) n3 n3) := by rw [cell_of_row _ _ 3 _ _ (0, 0) (heap_alloc_new w _)]; rfl
  have q4 : (w.alloc (.cells #[.string s0, .slice (some ⟨g1, 0, none⟩) n1 n1, .slice (some ⟨g2, 0, none⟩) n2 n2, .slice (some ⟨g3, 0, none⟩) n3 n3, .string s4, .slice (some ⟨g4, 0, none⟩) n4 n4] 27)).cell? ⟨w.heap.size, 4, none⟩ = some (.string s4) := by rw [cell_of_row _ _ 4 _ _ (0, 0) (heap_alloc_new w _)]; rfl
  have q5 : (w.alloc (.cells #[.string s0, .slice (some ⟨g1, 0, none⟩) n1 n1, .slice (some ⟨g2, 0, none⟩) n2 n2, .slice (some ⟨g3, 0, none⟩) n3 n3, .string s4, .slice (some ⟨g4, 0, none⟩) n4 n4] 27)).cell? ⟨w.heap.size, 5, none⟩ = some (.slice (some ⟨g4, 0, none⟩) n4 n4) := by rw [cell_of_row _ _ 5 _ _ (0, 0) (heap_alloc_new w _)]; rfl
  have KQ : Hid (∀ W', Tch S (w.alloc (.cells #[.string s0, .slice (some ⟨g1, 0, none⟩) n1 n1, .slice (some ⟨g2, 0, none⟩) n2 n2, .slice (some ⟨g3, 0, none⟩) n3 n3, .string s4, .slice (some ⟨g4, 0, none⟩) n4 n4] 27)) W' → W'.cell? ⟨w.heap.size, 0, none⟩ = some (.string s0) ∧ W'.cell? ⟨w.heap.size, 1, none⟩ = some (.slice (some ⟨g1, 0, none⟩) n1 n1) ∧ W'.cell? ⟨w.heap.size, 2, none⟩ = some (.slice (some ⟨g2, 0, none⟩) n2 n2) ∧ W'.cell? ⟨w.heap.size, 3, none⟩ = some (.slice (some ⟨g3, 0, none⟩) n3 n3) ∧ W'.cell? ⟨w.heap.size, 4, none⟩ = some (.string s4) ∧ W'.cell? ⟨w.heap.size, 5, none⟩ = some (.slice (some ⟨g4, 0, none⟩) n4 n4)) := Lib.hid (fun W' h => ⟨h.cell_far NW.out q0, h.cell_far NW.out q1, h.cell_far NW.out q2, h.cell_far NW.out q3, h.cell_far NW.out q4, h.cell_far NW.out q5⟩)
  have T0 : Hid (Tch S w (w.alloc (.cells #[.string s0, .slice (some ⟨g1, 0, none⟩) n1 n1, .slice (some ⟨g2, 0, none⟩) n2 n2, .slice (some ⟨g3, 0, none⟩) n3 n3, .string s4, .slice (some ⟨g4, 0, none⟩) n4 n4] 27))) := Lib.hid (Tch.of_later ((Later.refl _).alloc _))
  have L0 : Hid (Sls w (w.alloc (.cells #[.string s0, .slice (some ⟨g1, 0, none⟩) n1 n1, .slice (some ⟨g2, 0, none⟩) n2 n2, .slice (some ⟨g3, 0, none⟩) n3 n3, .string s4, .slice (some ⟨g4, 0, none⟩) n4 n4] 27)) g4 n4) := Lib.hid (Sls.of_later ((Later.refl _).alloc _))
  go_enter Tryd.func30, Tryd.ntmps30
  go_wp2_with fail
  generalize (w.alloc (.cells #[.string s0, .slice (some ⟨g1, 0, none⟩) n1 n1, .slice (some ⟨g2, 0, none⟩) n2 n2, .slice (some ⟨g3, 0, none⟩) n3 n3, .string s4, .slice (some ⟨g4, 0, none⟩) n4 n4] 27)) = W1 at KQ T0 L0 q0 q1 q2 q3 q4 q5 ⊢
  refine (l_markStringS' g1 n1 1 W1 (R1.out.tch T0.out) m1 (by omega) (by omega)).mono ?_
  rintro e w2 ⟨rfl, ht⟩
  have U2 := Lib.hid (ht.mono (S' := S) (fun i h => (show i = g1 from h) ▸ S1.out))
  have L2 := Lib.hid (L0.out.trans (Sls.of_far ht (fun h : g4 = g1 => G14 h.symm)))
  clear ht q0 q1 q2 q3 q4 q5
  obtain ⟨q0, q1, q2, q3, q4, q5⟩ := KQ.out _ U2.out
  go_wp2_with fail
  refine (l_markStringS' g2 n2 (1 + n1) w2 (R2.out.tch (T0.out.trans U2.out)) m2 (by omega) (by omega)).mono ?_
  rintro e w3 ⟨rfl, ht⟩
  have U3 := Lib.hid (U2.out.trans (ht.mono (S' := S) (fun i h => (show i = g2 from h) ▸ S2.out)))
  have L3 := Lib.hid (L2.out.trans (Sls.of_far ht (fun h : g4 = g2 => G24 h.symm)))
  clear ht q0 q1 q2 q3 q4 q5
  obtain ⟨q0, q1, q2, q3, q4, q5⟩ := KQ.out _ U3.out
  go_wp2_with fail
  refine (l_markStringS' g3 n3 (1 + n1 + n2) w3 (R3.out.tch (T0.out.trans U3.out)) m3 (by omega) (by omega)).mono ?_
  rintro e w4 ⟨rfl, ht⟩
  have U4 := Lib.hid (U3.out.trans (ht.mono (S' := S) (fun i h => (show i = g3 from h) ▸ S3.out)))
  have L4 := Lib.hid (L3.out.trans (Sls.of_far ht (fun h : g4 = g3 => G34 h.symm)))
  clear ht q0 q1 q2 q3 q4 q5
  obtain ⟨q0, q1, q2, q3, q4, q5⟩ := KQ.out _ U4.out
  go_wp2_with fail
  refine (l_markLineS' S g4 n4 (1 + n1 + n2 + n3) w4 (R4.out.keep (T0.out.trans U4.out) L4.out) m4 (by omega) (by omega)).mono ?_
  rintro e w5 ⟨d, rfl, ht⟩
  have U5 := Lib.hid (T0.out.trans (U4.out.trans ht))
  clear ht q0 q1 q2 q3 q4 q5
  go_wp2_with fail
  go_ret
  exact HV.out _ _ U5.out
end Go.Proofs.YtokipobjpinhmaaDoor
namespace Go.Proofs.YtokipobjpinhmaaDoor
open Go.RowKit Go.Shelf
set_option maxHeartbeats 4000000
set_option maxRecDepth 100000
set_option linter.unusedVariables false
set_option linter.unusedSimpArgs false
def mkZ (W : List (List UInt8)) (k : Nat) : List (List UInt8) := (List.range W.length).map fun j => if j < k then mkX (1 + j) else wx W j
theorem mkZ_len (W : List (List UInt8)) (k : Nat) : (mkZ W k).length = W.length := by simp [mkZ]
theorem mkZ_at (W : List (List UInt8)) (k j : Nat) (h : j < W.length) : wx (mkZ W k) j = if j < k then mkX (1 + j) else wx W j := by
  have : wx (mkZ W k) j = (mkZ W k).getD j [] := rfl
  rw [this, List.getD_eq_getElem?_getD]; simp [mkZ, h]
theorem mkZ_0 (W : List (List UInt8)) : mkZ W 0 = W := by
  apply List.ext_getElem
  · exact mkZ_len W 0
  · intro j h1 h2
    rw [wx_at _ j h1, wx_at _ j h2, mkZ_at W 0 j h2, if_neg (by omega)]
theorem mkZ_set (W : List (List UInt8)) (k : Nat) (hk : k < W.length) : (scl (mkZ W k)).set k (.string (tx (mkX (1 + k)))) = scl (mkZ W (k + 1)) := by
  apply List.ext_getElem?
  intro i
  by_cases hi : i < W.length
  · rw [List.getElem?_set, scl_len, mkZ_len, scl_get _ i (by rw [mkZ_len]; exact hi), scl_get _ i (by rw [mkZ_len]; exact hi), mkZ_at W k i hi, mkZ_at W (k + 1) i hi]
    by_cases e : k = i
    · subst e
      rw [if_pos rfl, if_pos hi, if_pos (by omega)]
    · rw [if_neg e]
      by_cases c : i < k
      · rw [if_pos c, if_pos (by omega)]
      · rw [if_neg c, if_neg (by omega)]
  · rw [List.getElem?_eq_none (by simp [scl_len, mkZ_len]; omega), List.getElem?_eq_none (by simp [scl_len, mkZ_len]; omega)]
theorem l_markStringT (v : Value) (base : Nat) (W : List (List UInt8)) (n : Nat) (w : World) (hn : n = W.length) (ho : OwnT w base v W) (hl : n ≤ 100000000) :
    Calls Tryd.prog 34 #[v, .int .i64 1] w fun e w' => e = .returned (.int .i64 (1 + (n : Int))) ∧ OwnT w' base v (mkZ W n) ∧ w.grownBy w' v.ownBlock := by
  have HN := Lib.hid hn
  have h1 : w.ownsRow base 9 1 v W.length (scl W) := ho
  rcases h1.2 with ⟨rfl, h0⟩ | ⟨g, cap, cur, rfl, hb, hg, hnc, hcm, _⟩
  · have e : W = [] := List.length_eq_zero_iff.1 h0
    subst e
    obtain rfl : n = 0 := hn
    have HO := Lib.hid ho
    clear ho hl HN h1
    go_enter Tryd.func34, Tryd.ntmps34
    go_wp2_with fail
    go_loop [1, 5] (fun m i => i = .int .i64 0 ∧ m = .int .i64 1) (fun _ _ => 0)
    case atStart => exact ⟨rfl, rfl⟩
    case round =>
      obtain ⟨rfl, rfl⟩ := hrel
      go_wp2_with fail
      go_ret
      exact ⟨rfl, HO.out, ⟨rfl, rfl, rfl, Nat.le_refl _, fun _ _ _ => rfl⟩⟩
  · have O1 : Hid (w.ownsRow base 9 1 (.slice (some ⟨g, 0, none⟩) n cap) n (scl (mkZ W 0))) := Lib.hid (by rw [mkZ_0, hn]; exact h1)
    have hgl : g < w.heap.size := (ho.lt g rfl).2
    have HF : Hid (∀ w', w'.ownsRow base 9 1 (.slice (some ⟨g, 0, none⟩) n cap) n (scl (mkZ W n)) → OwnT w' base (.slice (some ⟨g, 0, none⟩) n cap) (mkZ W n)) := Lib.hid (fun w' h => by unfold OwnT; rw [mkZ_len, ← hn]; exact h)
    have HSET := Lib.hid (fun k h => mkZ_set W k h)
    rw [← hn] at hnc ⊢
    clear hg ho hb hcm h1 hn
    go_enter Tryd.func34, Tryd.ntmps34
    go_wp2_with fail
    go_loopw [1, 5] (fun m i wr => ∃ k : Nat, k ≤ n ∧ i = .int .i64 k ∧ m = .int .i64 (1 + (k : Int)) ∧ wr.ownsRow base 9 1 (.slice (some ⟨g, 0, none⟩) n cap) n (scl (mkZ W k)) ∧ w.grownBy wr (some g)) (fun _ i _ => n - (intOf i).toNat)
    case atStart => exact ⟨0, by omega, rfl, rfl, O1.out, ⟨rfl, rfl, rfl, Nat.le_refl _, fun _ _ _ => rfl⟩⟩
    case round =>
      obtain ⟨k, hk, rfl, rfl, ho, hg⟩ := hrel
      have HR := Lib.hid ho; have HG := Lib.hid hg
      clear ho hg
      by_cases hlt : k < n
      · have HST := Lib.hid (HSET.out k (by rw [← HN.out]; exact hlt)).symm
        have MT := Lib.hid (fun W' => l_markTextB (1 + k) W' (by omega) (by omega))
        obtain ⟨X, hX⟩ : ∃ X, X = tx (mkX (1 + k)) := ⟨_, rfl⟩
        rw [← hX] at MT HST
        have em : ((1 + k : Nat) : Int) = 1 + (k : Int) := by omega
        rw [em] at MT
        clear hX em
        go_wp2_with fail
        refine (MT.out _).mono ?_
        rintro e w4 ⟨rfl, hb⟩
        have R4 := Lib.hid (HR.out.kept (row := none) (grown_of_later hb none) (.inr (fun e => by cases e)))
        have G4 := Lib.hid (grown_trans HG.out (grown_of_later hb (some g)))
        have hz : w4.cell? ⟨g, k, none⟩ = some (.string (tx (wx (mkZ W k) k))) := by rw [R4.out.cellAt k (by omega), scl_get _ k (by rw [mkZ_len, ← HN.out]; exact hlt)]
        generalize tx (wx (mkZ W k) k) = z at hz
        have hf : w4.frozen? ⟨g, k, none⟩ = false := R4.out.frozenAt _
        have S4 := R4.out.stored k (.string X)
        have S4A := Lib.hid S4.1; have S4B := Lib.hid S4.2
        clear S4 hb
        go_wp2_with fail
        go_roundw
        case rel => exact ⟨k + 1, by omega, by go_num, by first | go_num | (congr 1; omega), by rw [HST.out]; exact S4A.out, grown_trans G4.out S4B.out⟩
        case measure => simp [intOf]; omega
      · obtain rfl : k = n := by omega
        go_wp2_with fail
        go_ret
        exact ⟨rfl, HF.out _ HR.out, HG.out⟩
theorem mkZ_short (W : List (List UInt8)) (k : Nat) (hl : W.length ≤ 100000000) (h : ∀ x ∈ W, x.length ≤ 1048576) : ∀ x ∈ mkZ W k, x.length ≤ 1048576 := by
  intro x hx
  obtain ⟨j, hj, rfl⟩ := List.mem_map.1 hx
  rw [List.mem_range] at hj
  by_cases c : j < k
  · simp only [if_pos c]
    have := mkX_len (1 + j) (by omega)
    omega
  · simp only [if_neg c]; exact h _ (wx_mem W j hj)
theorem l_heldStringT (v : Value) (base : Nat) (W : List (List UInt8)) (n : Nat) (w : World) (hn : n = W.length) (ho : OwnT w base v (mkZ W n)) (hl : n ≤ 100000000) (hsh : ∀ x ∈ W, x.length ≤ 1048576) :
    Calls Tryd.prog 35 #[v, .int .i64 1] w fun e w' => e = .returned (.int .i64 (1 + (n : Int))) ∧ Later w w' := by
  obtain ⟨a, cap, rfl, _, hs, _⟩ := ho.sts (mkZ_short W n (by omega) hsh)
  rw [mkZ_len, ← hn] at hs ⊢
  have HS := Lib.hid hs
  have HN := Lib.hid hn
  clear hs ho hn hsh
  go_enter Tryd.func35, Tryd.ntmps35
  go_wp2_with fail
  go_loopw [1, 5] (fun m i wr => ∃ k : Nat, k ≤ n ∧ i = .int .i64 k ∧ m = .int .i64 (1 + (k : Int)) ∧ Later w wr) (fun _ i _ => n - (intOf i).toNat)
  case atStart => exact ⟨0, by omega, rfl, rfl, Later.refl _⟩
  case round =>
    obtain ⟨k, hk, rfl, rfl, hb⟩ := hrel
    have B3 := Lib.hid hb
    by_cases hlt : k < n
    · obtain ⟨b, off, rfl, hc⟩ := (HS.out.later hb).at k hlt
      rw [mkZ_at W n k (by rw [← HN.out]; exact hlt), if_pos hlt] at hc
      have MT := Lib.hid (fun W' => l_markTextB (1 + k) W' (by omega) (by omega))
      obtain ⟨X, hX⟩ : ∃ X, X = tx (mkX (1 + k)) := ⟨_, rfl⟩
      rw [← hX] at MT hc
      have em : ((1 + k : Nat) : Int) = 1 + (k : Int) := by omega
      rw [em] at MT
      have D := Lib.hid hc
      have KL : Hid (∀ W', Later wr W' → W'.cell? ⟨b, off + k, none⟩ = some (.string X)) := Lib.hid (fun W' q => by rw [q.cell (p := ⟨b, off + k, none⟩) (cell_lt D.out)]; exact D.out)
      have RL := Lib.hid (Later.refl wr)
      clear hX em hb
      go_wp2_with fail
      go_region_held3 (fun w' => w'.cell? ⟨b, off + k, none⟩ = some (.string X)) (exact KL.out _ (by repeat (first | (with_reducible exact Later.refl _) | (with_reducible exact Hid.out (by assumption)) | (with_reducible refine Later.alloc ?_ _) | (with_reducible refine Later.setCell ?_ (by simp; omega) _) | (with_reducible refine Later.setCell ?_ (by simp) _) | (with_reducible refine Later.drewN ?_ _) | (with_reducible refine Later.drew ?_) | (with_reducible refine Later.trans ?_ (Hid.out (by assumption))))))
        (first | (go_at_call 69; refine (MT.out _).mono ?_; rintro e w1 ⟨rfl, hb1⟩; have H1 := Lib.hid hb1; clear hb1))
      all_goals
        go_wp2
        go_roundw
        case rel => exact ⟨k + 1, by omega, by go_num, by first | go_num | (congr 1; omega), B3.out.trans (by repeat (first | (with_reducible exact Later.refl _) | (with_reducible exact Hid.out (by assumption)) | (with_reducible refine Later.alloc ?_ _) | (with_reducible refine Later.setCell ?_ (by simp; omega) _) | (with_reducible refine Later.setCell ?_ (by simp) _) | (with_reducible refine Later.drewN ?_ _) | (with_reducible refine Later.drew ?_) | (with_reducible refine Later.trans ?_ (Hid.out (by assumption)))))⟩
        case measure => simp [intOf]; omega
    · obtain rfl : k = n := by omega
      clear hb
      go_wp2_with fail
      go_ret
      exact ⟨rfl, B3.out⟩
end Go.Proofs.YtokipobjpinhmaaDoor
namespace Go.Proofs.YtokipobjpinhmaaDoor
open Go.RowKit Go.Shelf
set_option maxHeartbeats 4000000
set_option maxRecDepth 100000
set_option linter.unusedVariables false
set_option linter.unusedSimpArgs false
theorem Tch.later_of {S : Nat → Prop} {w a b : World} (h : Tch S a b) (hl : Later w a) (hS : ∀ i, S i → w.heap.size ≤ i) : Later w b :=
  ⟨h.os.trans hl.os, h.tape.trans hl.tape, h.output.trans hl.output, Nat.le_trans hl.size h.size, fun i hi => (h.block i (Nat.lt_of_lt_of_le hi hl.size) (fun q => by have := hS i q; omega)).trans (hl.block i hi)⟩
theorem ownsRow_tch {w w' : World} {base : Nat} {T : TypeId} {sz : Nat} {v : Value} {n : Nat} {xs : List Value} (h : w.ownsRow base T sz v n xs) (hb : ∀ k, v.ownBlock = some k → w'.heap[k]? = w.heap[k]?) : w'.ownsRow base T sz v n xs := by
  refine ⟨h.1, ?_⟩
  rcases h.2 with h0 | ⟨g, cap, cur, rfl, h1, hg, h2⟩
  · exact .inl h0
  · exact .inr ⟨g, cap, cur, rfl, h1, (hb g rfl).trans hg, h2⟩
theorem OwnT.tchO {w w' : World} {base : Nat} {v : Value} {L : List (List UInt8)} (h : OwnT w base v L) (hb : ∀ k, v.ownBlock = some k → w'.heap[k]? = w.heap[k]?) : OwnT w' base v L := ownsRow_tch h hb
theorem OwnT_read {w : World} {base : Nat} {v : Value} {L : List (List UInt8)} (h : OwnT w base v L) (hs : ∀ x ∈ L, x.length ≤ 1048576) : ∃ a c, v = .slice a L.length c ∧ Sts w a L.length L := by
  obtain ⟨a, c, e, _, h1, _⟩ := h.sts hs
  exact ⟨a, c, e, h1⟩
theorem OwnT_stsS {w : World} {base : Nat} {a : Option Addr} {n c : Nat} {L : List (List UInt8)} (h : OwnT w base (.slice a n c) L) (hs : ∀ x ∈ L, x.length ≤ 1048576) : Sts w a n L := by
  obtain ⟨a', c', e, _, h1, _⟩ := h.sts hs
  cases e
  exact h1
theorem walk_FnExactUnusedNames (v : Value) (p : Prg) (w : World) (hp : PgO w v p) (hx : Ops w) :
    Calls Tryd.prog 9 #[v] w fun e w' => e = .returned (.bool true) ∧ Below w.heap.size w w' := by
  have HX := Lib.hid hx
  have HP := Lib.hid hp
  have SZ := Lib.hid (fun W h => l_szProgram v p W h)
  have TP := Lib.hid (fun W h1 h2 => l_toProgramC v p W h1 h2)
  clear hx
  obtain ⟨a1, c1, a2, c2, a3, c3, a4, c4, rfl, _, _, _, _, _, _⟩ := hp
  obtain ⟨s0, hs0⟩ : ∃ q, q = tx p.nm := ⟨_, rfl⟩
  obtain ⟨s4, hs4⟩ : ∃ q, q = tx p.grd := ⟨_, rfl⟩
  obtain ⟨n1, hn1⟩ : ∃ q, q = p.ins.length := ⟨_, rfl⟩
  obtain ⟨n2, hn2⟩ : ∃ q, q = p.vrs.length := ⟨_, rfl⟩
  obtain ⟨n3, hn3⟩ : ∃ q, q = p.outs.length := ⟨_, rfl⟩
  obtain ⟨n4, hn4⟩ : ∃ q, q = p.lns.length := ⟨_, rfl⟩
  rw [← hs0, ← hs4, ← hn1, ← hn2, ← hn3, ← hn4] at HP SZ TP ⊢
  have HS : Hid (∀ W u, PgV W u p → ∃ x1 y1 x2 y2 x3 y3 x4 y4, u = .agg #[.string s0, .slice x1 n1 y1, .slice x2 n2 y2, .slice x3 n3 y3, .string s4, .slice x4 n4 y4]) := Lib.hid (by
    rintro W u ⟨x1, y1, x2, y2, x3, y3, x4, y4, rfl, _⟩
    rw [← hs0, ← hs4, ← hn1, ← hn2, ← hn3, ← hn4]
    exact ⟨_, _, _, _, _, _, _, _, rfl⟩)
  clear hs0 hs4 hn1 hn2 hn3 hn4
  have q0 : (w.alloc (.cells #[.string s0, .slice a1 n1 c1, .slice a2 n2 c2, .slice a3 n3 c3, .string s4, .slice a4 n4 c4] 41)).cell? ⟨w.heap.size, 0, none⟩ = some (.string s0) := by rw [cell_of_row _ _ 0 _ _ (0, 0) (heap_alloc_new w _)]; rfl
  have q1 : (w.alloc (.cells #[.string s0, .slice a1 n1 c1, .slice a2 n2 c2, .slice a3 n3 c3, .string s4, .slice a4 n4 c4] 41)).cell? ⟨w.heap.size, 1, none⟩ = some (.slice a1 n1 c1) := by rw [cell_of_row _ _ 1 _ _ (0, 0) (heap_alloc_new w _)]; rfl
  have q2 : (w.alloc (.cells #[.string s0, .slice a1 n1 c1, .slice a2 n2 c2, .slice a3 n3 c3, .string s4, .slice a4 n4 c4] 41)).cell? ⟨w.heap.size, 2, none⟩ = some (.slice a2 n2 c2) := by rw [cell_of_row _ _ 2 _ _ (0, 0) (heap_alloc_new w _)]; rfl
  have q3 : (w.alloc (.cells #[.string s0, .slice a1 n1 c1, .slice a2 n2 c2, .slice a3 n3 c3, .string s4, .slice a4 n4 c4] 41)).cell? ⟨w.heap.size, 3, none⟩ = some (.slice a3 n3 c3) := by rw [cell_of_row _ _ 3 _ _ (0, 0) (heap_alloc_new w _)]; rfl
  have q4 : (w.alloc (.cells #[.string s0, .slice a1 n1 c1, .slice a2 n2 c2, .slice a3 n3 c3, .string s4, .slice a4 n4 c4] 41)).cell? ⟨w.heap.size, 4, none⟩ = some (.string s4) := by rw [cell_of_row _ _ 4 _ _ (0, 0) (heap_alloc_new w _)]; rfl
  have q5 : (w.alloc (.cells #[.string s0, .slice a1 n1 c1, .slice a2 n2 c2, .slice a3 n3 c3, .string s4, .slice a4 n4 c4] 41)).cell? ⟨w.heap.size, 5, none⟩ = some (.slice a4 n4 c4) := by rw [cell_of_row _ _ 5 _ _ (0, 0) (heap_alloc_new w _)]; rfl
  have hW0 : w.heap.size < (w.alloc (.cells #[.string s0, .slice a1 n1 c1, .slice a2 n2 c2, .slice a3 n3 c3, .string s4, .slice a4 n4 c4] 41)).heap.size := by rw [World.size_alloc]; exact Nat.lt_succ_self _
  have C0 : Hid (∀ W', Later (w.alloc (.cells #[.string s0, .slice a1 n1 c1, .slice a2 n2 c2, .slice a3 n3 c3, .string s4, .slice a4 n4 c4] 41)) W' → W'.cell? ⟨w.heap.size, 0, none⟩ = some (.string s0) ∧ W'.cell? ⟨w.heap.size, 1, none⟩ = some (.slice a1 n1 c1) ∧ W'.cell? ⟨w.heap.size, 2, none⟩ = some (.slice a2 n2 c2) ∧ W'.cell? ⟨w.heap.size, 3, none⟩ = some (.slice a3 n3 c3) ∧ W'.cell? ⟨w.heap.size, 4, none⟩ = some (.string s4) ∧ W'.cell? ⟨w.heap.size, 5, none⟩ = some (.slice a4 n4 c4)) := Lib.hid (fun W' q => ⟨by rw [q.cell (p := ⟨w.heap.size, 0, none⟩) hW0]; exact q0, by rw [q.cell (p := ⟨w.heap.size, 1, none⟩) hW0]; exact q1, by rw [q.cell (p := ⟨w.heap.size, 2, none⟩) hW0]; exact q2, by rw [q.cell (p := ⟨w.heap.size, 3, none⟩) hW0]; exact q3, by rw [q.cell (p := ⟨w.heap.size, 4, none⟩) hW0]; exact q4, by rw [q.cell (p := ⟨w.heap.size, 5, none⟩) hW0]; exact q5⟩)
  have A0 : Hid (Later w (w.alloc (.cells #[.string s0, .slice a1 n1 c1, .slice a2 n2 c2, .slice a3 n3 c3, .string s4, .slice a4 n4 c4] 41))) := Lib.hid ((Later.refl _).alloc _)
  clear hW0
  go_enter Tryd.func9, Tryd.ntmps9
  go_wp2_with fail
  generalize (w.alloc (.cells #[.string s0, .slice a1 n1 c1, .slice a2 n2 c2, .slice a3 n3 c3, .string s4, .slice a4 n4 c4] 41)) = W0 at C0 A0 q0 q1 q2 q3 q4 q5 ⊢
  clear q0 q1 q2 q3 q4 q5
  refine (SZ.out _ (show PgO W0 _ p from ?_)).mono ?_
  · obtain ⟨b1, d1, b2, d2, b3, d3, b4, d4, e, h1, h2, h3, h4, h5, h6⟩ := HP.out
    exact ⟨b1, d1, b2, d2, b3, d3, b4, d4, e, h1.later A0.out, h2.later A0.out, h3.later A0.out, h4.later A0.out, h5, h6⟩
  rintro e w1 ⟨rfl | ⟨r, rfl, hsh⟩, hb⟩
  · have B1 := Lib.hid hb
    obtain ⟨q0, q1, q2, q3, q4, q5⟩ := C0.out _ hb
    clear hb
    go_wp2_with fail
    go_ret
    exact ⟨rfl, Later.trans A0.out B1.out⟩
  · have B1 := Lib.hid (show Later W0 w1 from hb)
    have P0 := Lib.hid (HP.out.pgv hsh)
    have PW := Lib.hid (show ∀ W, Later W0 W → PgV W (.agg #[.string s0, .slice a1 n1 c1, .slice a2 n2 c2, .slice a3 n3 c3, .string s4, .slice a4 n4 c4]) p from fun W h => P0.out.later (Later.trans A0.out h))
    have HSH := Lib.hid hsh
    have hlen : p.lns.length ≤ 1048576 := by have := hsh.2.2.2.2.2.1; omega
    have hv20 : p.vrs.length ≤ 1048576 := hsh.2.2.1.1
    have hi20 : p.ins.length ≤ 1048576 := hsh.2.1.1
    have SS : Hid (∀ base u W, PgC base W u p → Calls Tryd.prog 36 #[u] W (RetX W (unW p) (seV p))) := Lib.hid (fun base u W h => s_UnusedNames base u p W h (by omega) )
    have IS : Hid (∀ base u W, PgC base W u p → Ops W → Calls Tryd.prog 37 #[u] W (RetX W (unW p) (seV p))) := Lib.hid (fun base u W h hW => i_UnusedNames base u p W h hW (by omega) (by omega) (by omega))
    have hLb : (unW p).length ≤ 2097152 := by
      unfold unW nbW
      split
      · exact Nat.le_trans (fil_len _ _) (by rw [List.length_append]; omega)
      · simp
    have HSL : Hid (∀ x ∈ unW p, x.length ≤ 1048576) := Lib.hid (by
      intro x hx
      unfold unW nbW at hx
      split at hx
      · exact mem_app2 P0.out.shorts.1 P0.out.shorts.2.1 x (List.mem_filter.1 hx).1
      · simp at hx)
    unfold RetX at SS IS
    generalize unW p = L at *
    generalize seV p = E at *
    obtain ⟨n, hn⟩ : ∃ n, n = L.length := ⟨_, rfl⟩
    have HN := Lib.hid hn
    have hn8 : n ≤ 2097152 := by rw [hn]; exact hLb
    clear hn hLb
    obtain ⟨q0, q1, q2, q3, q4, q5⟩ := C0.out _ hb
    clear hb hsh
    go_wp2_with fail
    refine (TP.out _ (PW.out _ B1.out) HSH.out).mono ?_
    rintro e w2 ⟨u, rfl, hu, hb⟩
    have B2 := Lib.hid (Later.trans B1.out hb)
    have U2 := Lib.hid hu
    clear hb hu q0 q1 q2 q3 q4 q5
    obtain ⟨q0, q1, q2, q3, q4, q5⟩ := C0.out _ B2.out
    go_wp2_with fail
    refine (SS.out _ u _ U2.out).mono ?_
    rintro e w3 ⟨v0, rfl, o0, hb⟩
    have B3 := Lib.hid (Later.trans B2.out hb)
    obtain ⟨a0, k0, rfl, t0⟩ := OwnT_read o0 HSL.out
    rw [← HN.out] at t0 ⊢
    have T0 := Lib.hid t0
    have C3 : Hid (∀ W', Later w3 W' → W'.cell? ⟨w.heap.size, 0, none⟩ = some (.string s0) ∧ W'.cell? ⟨w.heap.size, 1, none⟩ = some (.slice a1 n1 c1) ∧ W'.cell? ⟨w.heap.size, 2, none⟩ = some (.slice a2 n2 c2) ∧ W'.cell? ⟨w.heap.size, 3, none⟩ = some (.slice a3 n3 c3) ∧ W'.cell? ⟨w.heap.size, 4, none⟩ = some (.string s4) ∧ W'.cell? ⟨w.heap.size, 5, none⟩ = some (.slice a4 n4 c4)) := Lib.hid (fun W' h => C0.out _ (B3.out.trans h))
    have P3 : Hid (∀ W', Later w3 W' → PgV W' (.agg #[.string s0, .slice a1 n1 c1, .slice a2 n2 c2, .slice a3 n3 c3, .string s4, .slice a4 n4 c4]) p) := Lib.hid (fun W' h => PW.out _ (B3.out.trans h))
    have A3 := Lib.hid (Later.trans A0.out B3.out)
    clear hb o0 t0 U2 SS q0 q1 q2 q3 q4 q5 C0 PW B1 B2 P0 HP SZ
    obtain ⟨q0, q1, q2, q3, q4, q5⟩ := C3.out _ (Later.refl _)
    go_wp2_with fail
    refine (TP.out _ (P3.out _ (Later.refl _)) HSH.out).mono ?_
    rintro e w4 ⟨u2, rfl, hu, hb⟩
    have B4 := Lib.hid hb
    obtain ⟨x1, y1, x2, y2, x3, y3, x4, y4, rfl⟩ := HS.out _ _ hu.pgv
    have U4 := Lib.hid hu
    clear hb hu q0 q1 q2 q3 q4 q5
    have F4 := Lib.hid (frP_new w4 [.string s0, .slice x1 n1 y1, .slice x2 n2 y2, .slice x3 n3 y3, .string s4, .slice x4 n4 y4] 27)
    have L4 : Hid (Later w4 (w4.alloc (.cells #[.string s0, .slice x1 n1 y1, .slice x2 n2 y2, .slice x3 n3 y3, .string s4, .slice x4 n4 y4] 27))) := Lib.hid ((Later.refl _).alloc _)
    obtain ⟨q0, q1, q2, q3, q4, q5⟩ := C3.out _ B4.out
    obtain ⟨o0, o1, o2, o3, o4, o5, _, _, _, _, _, _⟩ := F4.out.o6
    go_wp2_with fail
    refine calls_into (S := fun W => Later w4 W ∧ Fr w4.heap.size [.string s0, .slice x1 n1 y1, .slice x2 n2 y2, .slice x3 n3 y3, .string s4, .slice x4 n4 y4] W) ⟨L4.out, F4.out⟩ ?_
    clear L4 F4 o0 o1 o2 o3 o4 o5 q0 q1 q2 q3 q4 q5
    rintro W5 ⟨l5, f5⟩
    refine (IS.out _ _ _ (U4.out.later l5) (HX.out.later (A3.out.trans (B4.out.trans l5)))).mono ?_
    rintro e w6 ⟨v1, rfl, hown, hb⟩
    have L6 := Lib.hid (l5.trans hb)
    have B6 := Lib.hid (B4.out.trans L6.out)
    have X6 := Lib.hid (U4.out.later L6.out)
    have F6 := Lib.hid (fr_later f5 hb)
    have HZ5 := Lib.hid l5.size
    have O6 := Lib.hid hown
    obtain ⟨aa1, k1, rfl, t1⟩ := OwnT_read hown HSL.out
    have T1 := Lib.hid t1
    rw [← HN.out] at O6 T1 ⊢
    clear hb l5 f5 hown t1
    have eV : ∀ b : Int, (b != b) = false := fun b => by simp
    obtain ⟨q0, q1, q2, q3, q4, q5⟩ := C3.out _ B6.out
    obtain ⟨o0, o1, o2, o3, o4, o5, _, _, _, _, _, _⟩ := F6.out.o6
    go_wp2_with fail
    refine (l_eqStringS_same aa1 a0 n k1 n k0 L _ T1.out (T0.out.later B6.out)).mono ?_
    rintro e w7 ⟨rfl, hb⟩
    have H7 := Lib.hid hb
    have L7 := Lib.hid (L6.out.trans hb)
    have B7 := Lib.hid (B6.out.trans hb)
    have X7 := Lib.hid (X6.out.later hb)
    have F7 := Lib.hid (fr_later F6.out hb)
    have O7 := Lib.hid (O6.out.later hb)
    clear hb q0 q1 q2 q3 q4 q5 o0 o1 o2 o3 o4 o5 X6 F6 O6 T1 H7
    obtain ⟨q0, q1, q2, q3, q4, q5⟩ := C3.out _ B7.out
    obtain ⟨o0, o1, o2, o3, o4, o5, _, _, _, _, _, _⟩ := F7.out.o6
    have KL : Hid (∀ W', Later w7 W' → (W'.cell? ⟨w.heap.size, 0, none⟩ = some (.string s0) ∧ W'.cell? ⟨w.heap.size, 1, none⟩ = some (.slice a1 n1 c1) ∧ W'.cell? ⟨w.heap.size, 2, none⟩ = some (.slice a2 n2 c2) ∧ W'.cell? ⟨w.heap.size, 3, none⟩ = some (.slice a3 n3 c3) ∧ W'.cell? ⟨w.heap.size, 4, none⟩ = some (.string s4) ∧ W'.cell? ⟨w.heap.size, 5, none⟩ = some (.slice a4 n4 c4)) ∧ (W'.cell? ⟨w4.heap.size, 0, none⟩ = some (.string s0) ∧ W'.cell? ⟨w4.heap.size, 1, none⟩ = some (.slice x1 n1 y1) ∧ W'.cell? ⟨w4.heap.size, 2, none⟩ = some (.slice x2 n2 y2) ∧ W'.cell? ⟨w4.heap.size, 3, none⟩ = some (.slice x3 n3 y3) ∧ W'.cell? ⟨w4.heap.size, 4, none⟩ = some (.string s4) ∧ W'.cell? ⟨w4.heap.size, 5, none⟩ = some (.slice x4 n4 y4))) := Lib.hid (fun W' q => ⟨C3.out _ (B7.out.trans q), by
      obtain ⟨o0, o1, o2, o3, o4, o5, _, _, _, _, _, _⟩ := (fr_later F7.out q).o6
      exact ⟨o0, o1, o2, o3, o4, o5⟩⟩)
    have RL := Lib.hid (Later.refl w7)
    have PW7 : Hid (∀ W, Later w7 W → PgV W (.agg #[.string s0, .slice a1 n1 c1, .slice a2 n2 c2, .slice a3 n3 c3, .string s4, .slice a4 n4 c4]) p) := Lib.hid (fun W h => P3.out _ (B7.out.trans h))
    go_wp2_with fail
    go_region_held3 (fun W' => (W'.cell? ⟨w.heap.size, 0, none⟩ = some (.string s0) ∧ W'.cell? ⟨w.heap.size, 1, none⟩ = some (.slice a1 n1 c1) ∧ W'.cell? ⟨w.heap.size, 2, none⟩ = some (.slice a2 n2 c2) ∧ W'.cell? ⟨w.heap.size, 3, none⟩ = some (.slice a3 n3 c3) ∧ W'.cell? ⟨w.heap.size, 4, none⟩ = some (.string s4) ∧ W'.cell? ⟨w.heap.size, 5, none⟩ = some (.slice a4 n4 c4)) ∧ (W'.cell? ⟨w4.heap.size, 0, none⟩ = some (.string s0) ∧ W'.cell? ⟨w4.heap.size, 1, none⟩ = some (.slice x1 n1 y1) ∧ W'.cell? ⟨w4.heap.size, 2, none⟩ = some (.slice x2 n2 y2) ∧ W'.cell? ⟨w4.heap.size, 3, none⟩ = some (.slice x3 n3 y3) ∧ W'.cell? ⟨w4.heap.size, 4, none⟩ = some (.string s4) ∧ W'.cell? ⟨w4.heap.size, 5, none⟩ = some (.slice x4 n4 y4))) (exact KL.out _ (by repeat (first | (with_reducible exact Later.refl _) | (with_reducible exact Hid.out (by assumption)) | (with_reducible refine Later.alloc ?_ _) | (with_reducible refine Later.setCell ?_ (by simp; omega) _) | (with_reducible refine Later.setCell ?_ (by simp) _) | (with_reducible refine Later.drewN ?_ _) | (with_reducible refine Later.drew ?_) | (with_reducible refine Later.trans ?_ (Hid.out (by assumption))))))
      (first
        | (go_at_call 25; refine (TP.out _ (PW7.out _ (by repeat (first | (with_reducible exact Later.refl _) | (with_reducible exact Hid.out (by assumption)) | (with_reducible refine Later.alloc ?_ _) | (with_reducible refine Later.setCell ?_ (by simp; omega) _) | (with_reducible refine Later.setCell ?_ (by simp) _) | (with_reducible refine Later.drewN ?_ _) | (with_reducible refine Later.drew ?_) | (with_reducible refine Later.trans ?_ (Hid.out (by assumption)))))) HSH.out).mono ?_; rintro e wp ⟨u7, rfl, hu, hb⟩; have U7 := Lib.hid hu; have HP7 := Lib.hid hb; clear hb hu)
        | (go_at_call 26; refine (l_eqProgram_same _ _ p _ (X7.out.pgv.later (by repeat (first | (with_reducible exact Later.refl _) | (with_reducible exact Hid.out (by assumption)) | (with_reducible refine Later.alloc ?_ _) | (with_reducible refine Later.setCell ?_ (by simp; omega) _) | (with_reducible refine Later.setCell ?_ (by simp) _) | (with_reducible refine Later.drewN ?_ _) | (with_reducible refine Later.drew ?_) | (with_reducible refine Later.trans ?_ (Hid.out (by assumption)))))) (U7.out.pgv.later (by repeat (first | (with_reducible exact Later.refl _) | (with_reducible exact Hid.out (by assumption)) | (with_reducible refine Later.alloc ?_ _) | (with_reducible refine Later.setCell ?_ (by simp; omega) _) | (with_reducible refine Later.setCell ?_ (by simp) _) | (with_reducible refine Later.drewN ?_ _) | (with_reducible refine Later.drew ?_) | (with_reducible refine Later.trans ?_ (Hid.out (by assumption))))))).mono ?_; rintro e wq ⟨rfl, hb⟩; have HQ7 := Lib.hid hb; clear hb))
    all_goals
      refine then_into (fun W => Later w7 W) (show Later w7 _ from (by repeat (first | (with_reducible exact Later.refl _) | (with_reducible exact Hid.out (by assumption)) | (with_reducible refine Later.alloc ?_ _) | (with_reducible refine Later.setCell ?_ (by simp; omega) _) | (with_reducible refine Later.setCell ?_ (by simp) _) | (with_reducible refine Later.drewN ?_ _) | (with_reducible refine Later.drew ?_) | (with_reducible refine Later.trans ?_ (Hid.out (by assumption)))))) ?_
      intro w8 hb
      clear HQ7 HP7 U7 KL PW7 RL q0 q1 q2 q3 q4 q5 o0 o1 o2 o3 o4 o5
      have L8 := Lib.hid (L7.out.trans hb)
      have B8 := Lib.hid (B7.out.trans hb)
      have F8 := Lib.hid (fr_later F7.out hb)
      have O8 := Lib.hid (O7.out.later hb)
      clear hb O7 F7 X7 L7 B7
      obtain ⟨q0, q1, q2, q3, q4, q5⟩ := C3.out _ B8.out
      obtain ⟨o0, o1, o2, o3, o4, o5, _, _, _, _, _, _⟩ := F8.out.o6
      go_wp2_with fail
      refine (l_markProgram w3.heap.size _ p w4 w8 U4.out L8.out HSH.out).mono ?_
      rintro e w9 ⟨d, rfl, ht⟩
      have B9 : Hid (Later w3 w9) := Lib.hid (ht.later_of B8.out (fun i hi => hi.1))
      have O9 := Lib.hid (OwnT.tchO O8.out (fun k hk => ht.block k (O8.out.lt k hk).2 (fun hs => by have h1 := hs.2; have h2 := (O8.out.lt k hk).1; have h3 := HZ5.out; omega)))
      clear ht O8 F8 L8 U4 q0 q1 q2 q3 q4 q5 o0 o1 o2 o3 o4 o5
      obtain ⟨q0, q1, q2, q3, q4, q5⟩ := C3.out _ B9.out
      have ed : decide ((d : Int) < 0) = false := decide_eq_false (by omega)
      have T9 := Lib.hid (OwnT_stsS O9.out HSL.out)
      go_wp2_with fail
      refine (l_eqStringS_same aa1 a0 n k1 n k0 L _ T9.out (T0.out.later B9.out)).mono ?_
      rintro e w10 ⟨rfl, hb⟩
      have B10 := Lib.hid (B9.out.trans hb)
      have O10 := Lib.hid (O9.out.later hb)
      clear hb q0 q1 q2 q3 q4 q5 T9 O9 B9 ed
      obtain ⟨q0, q1, q2, q3, q4, q5⟩ := C3.out _ B10.out
      go_wp2_with fail
      refine (l_markStringT _ _ L n _ HN.out O10.out (by omega)).mono ?_
      rintro e w11 ⟨rfl, ho, hg⟩
      skip
      have O11 := Lib.hid ho
      have B11 : Hid (Later w3 w11) := Lib.hid (Below.grown B10.out hg B10.out.size (fun j hj => by have h1 := (O10.out.lt j hj).1; have h2 := HZ5.out; have h3 := B4.out.size; omega))
      clear ho hg q0 q1 q2 q3 q4 q5 O10 B10
      obtain ⟨q0, q1, q2, q3, q4, q5⟩ := C3.out _ B11.out
      go_wp2_with fail
      refine (l_heldStringT _ _ L n _ HN.out O11.out (by omega) HSL.out).mono ?_
      rintro e w12 ⟨rfl, hb⟩
      have B12 := Lib.hid (B11.out.trans hb)
      have O12 := Lib.hid (O11.out.later hb)
      clear hb q0 q1 q2 q3 q4 q5 O11 B11
      obtain ⟨q0, q1, q2, q3, q4, q5⟩ := C3.out _ B12.out
      go_wp2_with fail
      refine (TP.out _ (P3.out _ B12.out) HSH.out).mono ?_
      rintro e w13 ⟨u3, rfl, hu, hb⟩
      have B13 := Lib.hid (B12.out.trans hb)
      have O13 := Lib.hid (O12.out.later hb)
      have U13 := Lib.hid hu
      clear hb hu q0 q1 q2 q3 q4 q5 O12 B12
      go_wp2_with fail
      refine (IS.out _ _ _ U13.out (HX.out.later (A3.out.trans B13.out))).mono ?_
      rintro e w14 ⟨v2, rfl, o2, hb⟩
      have B14 := Lib.hid (B13.out.trans hb)
      have O14 := Lib.hid (O13.out.later hb)
      obtain ⟨aa2, k2, rfl, t2⟩ := OwnT_read o2 HSL.out
      rw [← HN.out] at t2 ⊢
      have T2 := Lib.hid t2
      clear hb o2 t2 U13 O13 B13
      go_wp2_with fail
      refine (l_eqStringS_same aa2 a0 n k2 n k0 L _ T2.out (T0.out.later B14.out)).mono ?_
      rintro e w15 ⟨rfl, hb⟩
      have B15 := Lib.hid (B14.out.trans hb)
      have O15 := Lib.hid (O14.out.later hb)
      clear hb T2 O14 B14
      go_wp2_with fail
      refine (l_heldStringT _ _ L n _ HN.out O15.out (by omega) HSL.out).mono ?_
      rintro e w16 ⟨rfl, hb⟩
      have B16 := Lib.hid (B15.out.trans hb)
      clear hb O15 B15
      go_wp2_with fail
      go_ret
      exact ⟨rfl, A3.out.trans B16.out⟩
end Go.Proofs.YtokipobjpinhmaaDoor
