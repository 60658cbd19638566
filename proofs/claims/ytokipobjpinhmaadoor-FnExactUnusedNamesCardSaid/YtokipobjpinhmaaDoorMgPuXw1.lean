/- Programs that are written: IsWritten, of the program and of the model. | Programs that are written: IsWritten of the model. | LineOf, of the program and of the model. | Names of a program: declared, assigned, read, used: the program's methods. | Lines that use a name: UsesOf, of the program and of the model. | The six rules, ProgramFault and IsSound, of the program. | brokenRule, ProgramFault, soundError and IsSound, of the program. | ProgramFault, soundError and IsSound, of the program. | Remembered variables and unused names, in plain words. | strings.Clone, by its contract off the shelf, laid by names. -/
import Derived.Test.YtokipobjpinhmaaDoorPsWi
import Derived.Test.YtokipobjpinhmaaDoorPsWb
import Derived.Test.YtokipobjpinhmaaDoorPuT
import Derived.Test.YtokipobjpinhmaaDoorPuC
import Derived.Test.YtokipobjpinhmaaDoorOwn
import Derived.Test.YtokipobjpinhmaaDoorPuM
import Derived.Test.YtokipobjpinhmaaDoorOwnT
import Derived.Shelf.LaysM
import Derived.Shelf.Strconv.Clone
namespace Go.Proofs.YtokipobjpinhmaaDoor
open Go.RowKit Go.Shelf
set_option maxHeartbeats 16000000
set_option maxRecDepth 100000
set_option linter.unusedVariables false
set_option linter.unusedSimpArgs false
theorem i_IsWritten (v : Value) (p : Prg) (w : World) (hp : PgV w v p) (ho : Ops w) (hl : p.lns.length ≤ 1000000000) : Calls Tryd.prog 49 #[v] w fun e w' => e = .returned (.bool (wrtB p)) ∧ Later w w' := by
  obtain ⟨a1, c1, a2, c2, a3, c3, a4, c4, rfl, h1, h2, h3, h4, h5, h6⟩ := hp
  have P1 := Lib.hid h1; have P2 := Lib.hid h2; have P3 := Lib.hid h3; have P4 := Lib.hid h4
  have HO := Lib.hid ho
  have N0 : Hid (∀ W, Calls Tryd.prog 78 #[.string (tx p.nm)] W fun e w' => e = .returned (.bool (nmB p.nm)) ∧ Later W w') := Lib.hid (fun W => i_isName (tx p.nm) W h5)
  have N4 : Hid (∀ W, Calls Tryd.prog 78 #[.string (tx p.grd)] W fun e w' => e = .returned (.bool (nmB p.grd)) ∧ Later W w') := Lib.hid (fun W => i_isName (tx p.grd) W h6)
  have A1 := Lib.hid (fun W h => i_areNames a1 p.ins.length c1 p.ins W h)
  have A2 := Lib.hid (fun W h => i_areNames a2 p.vrs.length c2 p.vrs W h)
  have A3 := Lib.hid (fun W h => i_areNames a3 p.outs.length c3 p.outs W h)
  have A4 := Lib.hid (fun W h ho => i_areLines a4 p.lns.length c4 p.lns W h ho)
  have EG : ((tx p.grd).toList.isEmpty) = decide (p.grd = []) := by
    rw [Lib.toList_data]
    show p.grd.isEmpty = _
    cases p.grd <;> simp
  have HW : Hid (wrtB p = (nmB p.nm && (decide (p.grd = []) || nmB p.grd) && decide (1 ≤ p.ins.length) && decide (1 ≤ p.outs.length) && nmsB p.ins && nmsB p.vrs && nmsB p.outs && lnsB p.lns)) := Lib.hid rfl
  have hn1 := P1.out.2.1; have hn3 := P3.out.2.1
  obtain ⟨s0, hs0⟩ : ∃ q, q = tx p.nm := ⟨_, rfl⟩
  obtain ⟨s4, hs4⟩ : ∃ q, q = tx p.grd := ⟨_, rfl⟩
  obtain ⟨n1, hn1q⟩ : ∃ q, q = p.ins.length := ⟨_, rfl⟩
  obtain ⟨n2, hn2q⟩ : ∃ q, q = p.vrs.length := ⟨_, rfl⟩
  obtain ⟨n3, hn3q⟩ : ∃ q, q = p.outs.length := ⟨_, rfl⟩
  obtain ⟨n4, hn4q⟩ : ∃ q, q = p.lns.length := ⟨_, rfl⟩
  obtain ⟨b0, hb0⟩ : ∃ q, q = nmB p.nm := ⟨_, rfl⟩
  obtain ⟨b4, hb4⟩ : ∃ q, q = nmB p.grd := ⟨_, rfl⟩
  obtain ⟨g0, hg0⟩ : ∃ q, q = decide (p.grd = []) := ⟨_, rfl⟩
  obtain ⟨b1, hb1⟩ : ∃ q, q = nmsB p.ins := ⟨_, rfl⟩
  obtain ⟨b2, hb2⟩ : ∃ q, q = nmsB p.vrs := ⟨_, rfl⟩
  obtain ⟨b3, hb3⟩ : ∃ q, q = nmsB p.outs := ⟨_, rfl⟩
  obtain ⟨b5, hb5⟩ : ∃ q, q = lnsB p.lns := ⟨_, rfl⟩
  rw [← hs0] at N0; rw [← hs4] at N4 EG; rw [← hb0] at N0 HW; rw [← hb4] at N4 HW; rw [← hg0] at EG HW; rw [← hb1] at A1 HW; rw [← hb2] at A2 HW; rw [← hb3] at A3 HW; rw [← hb5] at A4 HW
  rw [← hn1q] at A1 P1 HW hn1; rw [← hn2q] at A2 P2; rw [← hn3q] at A3 P3 HW hn3; rw [← hn4q] at A4 P4
  rw [← hs0, ← hs4, ← hn1q, ← hn2q, ← hn3q, ← hn4q]
  clear hs0 hs4 hn1q hn2q hn3q hn4q hb0 hb4 hg0 hb1 hb2 hb3 hb5 h1 h2 h3 h4 h5 h6 ho hl
  have q0 : (w.alloc (.cells #[.string s0, .slice a1 n1 c1, .slice a2 n2 c2, .slice a3 n3 c3, .string s4, .slice a4 n4 c4] 27)).cell? ⟨w.heap.size, 0, none⟩ = some (.string s0) := by rw [cell_of_row _ _ 0 _ _ (0, 0) (heap_alloc_new w _)]; rfl
  have q1 : (w.alloc (.cells #[.string s0, .slice a1 n1 c1, .slice a2 n2 c2, .slice a3 n3 c3, .string s4, .slice a4 n4 c4] 27)).cell? ⟨w.heap.size, 1, none⟩ = some (.slice a1 n1 c1) := by rw [cell_of_row _ _ 1 _ _ (0, 0) (heap_alloc_new w _)]; rfl
  have q2 : (w.alloc (.cells #[.string s0, .slice a1 n1 c1, .slice a2 n2 c2, .slice a3 n3 c3, .string s4, .slice a4 n4 c4] 27)).cell? ⟨w.heap.size, 2, none⟩ = some (.slice a2 n2 c2) := by rw [cell_of_row _ _ 2 _ _ (0, 0) (heap_alloc_new w _)]; rfl
  have q3 : (w.alloc (.cells #[.string s0, .slice a1 n1 c1, .slice a2 n2 c2, .slice a3 n3 c3, .string s4, .slice a4 n4 c4] 27)).cell? ⟨w.heap.size, 3, none⟩ = some (.slice a3 n3 c3) := by rw [cell_of_row _ _ 3 _ _ (0, 0) (heap_alloc_new w _)]; rfl
  have q4 : (w.alloc (.cells #[.string s0, .slice a1 n1 c1, .slice a2 n2 c2, .slice a3 n3 c3, .string s4, .slice a4 n4 c4] 27)).cell? ⟨w.heap.size, 4, none⟩ = some (.string s4) := by rw [cell_of_row _ _ 4 _ _ (0, 0) (heap_alloc_new w _)]; rfl
  have q5 : (w.alloc (.cells #[.string s0, .slice a1 n1 c1, .slice a2 n2 c2, .slice a3 n3 c3, .string s4, .slice a4 n4 c4] 27)).cell? ⟨w.heap.size, 5, none⟩ = some (.slice a4 n4 c4) := by rw [cell_of_row _ _ 5 _ _ (0, 0) (heap_alloc_new w _)]; rfl
  have hW0 : w.heap.size < (w.alloc (.cells #[.string s0, .slice a1 n1 c1, .slice a2 n2 c2, .slice a3 n3 c3, .string s4, .slice a4 n4 c4] 27)).heap.size := by rw [World.size_alloc]; exact Nat.lt_succ_self _
  have C0 : Hid (∀ W', Later (w.alloc (.cells #[.string s0, .slice a1 n1 c1, .slice a2 n2 c2, .slice a3 n3 c3, .string s4, .slice a4 n4 c4] 27)) W' → W'.cell? ⟨w.heap.size, 0, none⟩ = some (.string s0) ∧ W'.cell? ⟨w.heap.size, 1, none⟩ = some (.slice a1 n1 c1) ∧ W'.cell? ⟨w.heap.size, 2, none⟩ = some (.slice a2 n2 c2) ∧ W'.cell? ⟨w.heap.size, 3, none⟩ = some (.slice a3 n3 c3) ∧ W'.cell? ⟨w.heap.size, 4, none⟩ = some (.string s4) ∧ W'.cell? ⟨w.heap.size, 5, none⟩ = some (.slice a4 n4 c4)) := Lib.hid (fun W' q => ⟨by rw [q.cell (p := ⟨w.heap.size, 0, none⟩) hW0]; exact q0, by rw [q.cell (p := ⟨w.heap.size, 1, none⟩) hW0]; exact q1, by rw [q.cell (p := ⟨w.heap.size, 2, none⟩) hW0]; exact q2, by rw [q.cell (p := ⟨w.heap.size, 3, none⟩) hW0]; exact q3, by rw [q.cell (p := ⟨w.heap.size, 4, none⟩) hW0]; exact q4, by rw [q.cell (p := ⟨w.heap.size, 5, none⟩) hW0]; exact q5⟩)
  have A0 : Hid (Later w (w.alloc (.cells #[.string s0, .slice a1 n1 c1, .slice a2 n2 c2, .slice a3 n3 c3, .string s4, .slice a4 n4 c4] 27))) := Lib.hid ((Later.refl _).alloc _)
  clear hW0
  go_enter Tryd.func49, Tryd.ntmps49
  go_wp2_with fail
  generalize w.alloc (.cells #[.string s0, .slice a1 n1 c1, .slice a2 n2 c2, .slice a3 n3 c3, .string s4, .slice a4 n4 c4] 27) = W0 at C0 A0 q0 q1 q2 q3 q4 q5 ⊢
  clear q0 q1 q2 q3 q4 q5
  refine (N0.out _).mono ?_
  rintro e w1 ⟨rfl, hb⟩
  have L1 := Lib.hid (show Later W0 w1 from hb)
  obtain ⟨q0, q1, q2, q3, q4, q5⟩ := C0.out _ hb
  clear hb
  cases b0
  · have HWF : Hid (wrtB p = false) := Lib.hid (by rw [HW.out]; rfl)
    go_wp2_with fail
    all_goals
      go_ret
      exact ⟨by rw [HWF.out]; rfl, Later.trans A0.out L1.out⟩
  · cases g0
    · cases b4
      · have HWF : Hid (wrtB p = false) := Lib.hid (by rw [HW.out]; rfl)
        go_wp2_with (first
    | (go_at_call 78; refine (N4.out _).mono ?_; rintro e w2 ⟨rfl, hb⟩; have LW := Lib.hid (Later.trans (show Later W0 _ from (Hid.out (by assumption))) hb); obtain ⟨q0, q1, q2, q3, q4, q5⟩ := C0.out _ LW.out; clear hb)
    | (go_at_call_of 88 a1; refine (A1.out _ (P1.out.later (Later.trans A0.out (Hid.out (by assumption))))).mono ?_; rintro e w2 ⟨rfl, hb⟩; have LW := Lib.hid (Later.trans (show Later W0 _ from (Hid.out (by assumption))) hb); obtain ⟨q0, q1, q2, q3, q4, q5⟩ := C0.out _ LW.out; clear hb)
    | (go_at_call_of 88 a2; refine (A2.out _ (P2.out.later (Later.trans A0.out (Hid.out (by assumption))))).mono ?_; rintro e w2 ⟨rfl, hb⟩; have LW := Lib.hid (Later.trans (show Later W0 _ from (Hid.out (by assumption))) hb); obtain ⟨q0, q1, q2, q3, q4, q5⟩ := C0.out _ LW.out; clear hb)
    | (go_at_call_of 88 a3; refine (A3.out _ (P3.out.later (Later.trans A0.out (Hid.out (by assumption))))).mono ?_; rintro e w2 ⟨rfl, hb⟩; have LW := Lib.hid (Later.trans (show Later W0 _ from (Hid.out (by assumption))) hb); obtain ⟨q0, q1, q2, q3, q4, q5⟩ := C0.out _ LW.out; clear hb)
    | (go_at_call 89; refine (A4.out _ (P4.out.later (Later.trans A0.out (Hid.out (by assumption)))) (HO.out.later (Later.trans A0.out (Hid.out (by assumption))))).mono ?_; rintro e w2 ⟨rfl, hb⟩; have LW := Lib.hid (Later.trans (show Later W0 _ from (Hid.out (by assumption))) hb); obtain ⟨q0, q1, q2, q3, q4, q5⟩ := C0.out _ LW.out; clear hb))
        all_goals
          go_ret
          exact ⟨by rw [HWF.out]; rfl, Later.trans A0.out (Hid.out (by assumption))⟩
      · have HW := Lib.hid HW.out
        rcases (show n1 = 0 ∨ (1 ≤ n1 ∧ n3 = 0) ∨ (1 ≤ n1 ∧ 1 ≤ n3) by omega) with h | ⟨h, h'⟩ | ⟨h, h'⟩
        · subst h
          go_wp2_with (first
    | (go_at_call 78; refine (N4.out _).mono ?_; rintro e w2 ⟨rfl, hb⟩; have LW := Lib.hid (Later.trans (show Later W0 _ from (Hid.out (by assumption))) hb); obtain ⟨q0, q1, q2, q3, q4, q5⟩ := C0.out _ LW.out; clear hb)
    | (go_at_call_of 88 a1; refine (A1.out _ (P1.out.later (Later.trans A0.out (Hid.out (by assumption))))).mono ?_; rintro e w2 ⟨rfl, hb⟩; have LW := Lib.hid (Later.trans (show Later W0 _ from (Hid.out (by assumption))) hb); obtain ⟨q0, q1, q2, q3, q4, q5⟩ := C0.out _ LW.out; clear hb)
    | (go_at_call_of 88 a2; refine (A2.out _ (P2.out.later (Later.trans A0.out (Hid.out (by assumption))))).mono ?_; rintro e w2 ⟨rfl, hb⟩; have LW := Lib.hid (Later.trans (show Later W0 _ from (Hid.out (by assumption))) hb); obtain ⟨q0, q1, q2, q3, q4, q5⟩ := C0.out _ LW.out; clear hb)
    | (go_at_call_of 88 a3; refine (A3.out _ (P3.out.later (Later.trans A0.out (Hid.out (by assumption))))).mono ?_; rintro e w2 ⟨rfl, hb⟩; have LW := Lib.hid (Later.trans (show Later W0 _ from (Hid.out (by assumption))) hb); obtain ⟨q0, q1, q2, q3, q4, q5⟩ := C0.out _ LW.out; clear hb)
    | (go_at_call 89; refine (A4.out _ (P4.out.later (Later.trans A0.out (Hid.out (by assumption)))) (HO.out.later (Later.trans A0.out (Hid.out (by assumption))))).mono ?_; rintro e w2 ⟨rfl, hb⟩; have LW := Lib.hid (Later.trans (show Later W0 _ from (Hid.out (by assumption))) hb); obtain ⟨q0, q1, q2, q3, q4, q5⟩ := C0.out _ LW.out; clear hb))
          all_goals
            go_ret
            exact ⟨by rw [HW.out]; rfl, Later.trans A0.out (Hid.out (by assumption))⟩
        · subst h'
          rw [decide_eq_true h] at HW
          have e1 : ((n1 : Int) == 0) = false := by simp; omega
          go_wp2_with (first
    | (go_at_call 78; refine (N4.out _).mono ?_; rintro e w2 ⟨rfl, hb⟩; have LW := Lib.hid (Later.trans (show Later W0 _ from (Hid.out (by assumption))) hb); obtain ⟨q0, q1, q2, q3, q4, q5⟩ := C0.out _ LW.out; clear hb)
    | (go_at_call_of 88 a1; refine (A1.out _ (P1.out.later (Later.trans A0.out (Hid.out (by assumption))))).mono ?_; rintro e w2 ⟨rfl, hb⟩; have LW := Lib.hid (Later.trans (show Later W0 _ from (Hid.out (by assumption))) hb); obtain ⟨q0, q1, q2, q3, q4, q5⟩ := C0.out _ LW.out; clear hb)
    | (go_at_call_of 88 a2; refine (A2.out _ (P2.out.later (Later.trans A0.out (Hid.out (by assumption))))).mono ?_; rintro e w2 ⟨rfl, hb⟩; have LW := Lib.hid (Later.trans (show Later W0 _ from (Hid.out (by assumption))) hb); obtain ⟨q0, q1, q2, q3, q4, q5⟩ := C0.out _ LW.out; clear hb)
    | (go_at_call_of 88 a3; refine (A3.out _ (P3.out.later (Later.trans A0.out (Hid.out (by assumption))))).mono ?_; rintro e w2 ⟨rfl, hb⟩; have LW := Lib.hid (Later.trans (show Later W0 _ from (Hid.out (by assumption))) hb); obtain ⟨q0, q1, q2, q3, q4, q5⟩ := C0.out _ LW.out; clear hb)
    | (go_at_call 89; refine (A4.out _ (P4.out.later (Later.trans A0.out (Hid.out (by assumption)))) (HO.out.later (Later.trans A0.out (Hid.out (by assumption))))).mono ?_; rintro e w2 ⟨rfl, hb⟩; have LW := Lib.hid (Later.trans (show Later W0 _ from (Hid.out (by assumption))) hb); obtain ⟨q0, q1, q2, q3, q4, q5⟩ := C0.out _ LW.out; clear hb))
          all_goals
            go_ret
            exact ⟨by rw [HW.out]; rfl, Later.trans A0.out (Hid.out (by assumption))⟩
        · rw [decide_eq_true h, decide_eq_true h'] at HW
          have e1 : ((n1 : Int) == 0) = false := by simp; omega
          have e3 : ((n3 : Int) == 0) = false := by simp; omega
          clear h h'
          cases b1
          · have HW : Hid (wrtB p = false) := Lib.hid (by rw [HW.out]; rfl)
            go_wp2_with (first
    | (go_at_call 78; refine (N4.out _).mono ?_; rintro e w2 ⟨rfl, hb⟩; have LW := Lib.hid (Later.trans (show Later W0 _ from (Hid.out (by assumption))) hb); obtain ⟨q0, q1, q2, q3, q4, q5⟩ := C0.out _ LW.out; clear hb)
    | (go_at_call_of 88 a1; refine (A1.out _ (P1.out.later (Later.trans A0.out (Hid.out (by assumption))))).mono ?_; rintro e w2 ⟨rfl, hb⟩; have LW := Lib.hid (Later.trans (show Later W0 _ from (Hid.out (by assumption))) hb); obtain ⟨q0, q1, q2, q3, q4, q5⟩ := C0.out _ LW.out; clear hb)
    | (go_at_call_of 88 a2; refine (A2.out _ (P2.out.later (Later.trans A0.out (Hid.out (by assumption))))).mono ?_; rintro e w2 ⟨rfl, hb⟩; have LW := Lib.hid (Later.trans (show Later W0 _ from (Hid.out (by assumption))) hb); obtain ⟨q0, q1, q2, q3, q4, q5⟩ := C0.out _ LW.out; clear hb)
    | (go_at_call_of 88 a3; refine (A3.out _ (P3.out.later (Later.trans A0.out (Hid.out (by assumption))))).mono ?_; rintro e w2 ⟨rfl, hb⟩; have LW := Lib.hid (Later.trans (show Later W0 _ from (Hid.out (by assumption))) hb); obtain ⟨q0, q1, q2, q3, q4, q5⟩ := C0.out _ LW.out; clear hb)
    | (go_at_call 89; refine (A4.out _ (P4.out.later (Later.trans A0.out (Hid.out (by assumption)))) (HO.out.later (Later.trans A0.out (Hid.out (by assumption))))).mono ?_; rintro e w2 ⟨rfl, hb⟩; have LW := Lib.hid (Later.trans (show Later W0 _ from (Hid.out (by assumption))) hb); obtain ⟨q0, q1, q2, q3, q4, q5⟩ := C0.out _ LW.out; clear hb))
            all_goals
              go_ret
              exact ⟨by rw [HW.out]; rfl, Later.trans A0.out (Hid.out (by assumption))⟩
          · cases b2
            · have HW : Hid (wrtB p = false) := Lib.hid (by rw [HW.out]; rfl)
              go_wp2_with (first
    | (go_at_call 78; refine (N4.out _).mono ?_; rintro e w2 ⟨rfl, hb⟩; have LW := Lib.hid (Later.trans (show Later W0 _ from (Hid.out (by assumption))) hb); obtain ⟨q0, q1, q2, q3, q4, q5⟩ := C0.out _ LW.out; clear hb)
    | (go_at_call_of 88 a1; refine (A1.out _ (P1.out.later (Later.trans A0.out (Hid.out (by assumption))))).mono ?_; rintro e w2 ⟨rfl, hb⟩; have LW := Lib.hid (Later.trans (show Later W0 _ from (Hid.out (by assumption))) hb); obtain ⟨q0, q1, q2, q3, q4, q5⟩ := C0.out _ LW.out; clear hb)
    | (go_at_call_of 88 a2; refine (A2.out _ (P2.out.later (Later.trans A0.out (Hid.out (by assumption))))).mono ?_; rintro e w2 ⟨rfl, hb⟩; have LW := Lib.hid (Later.trans (show Later W0 _ from (Hid.out (by assumption))) hb); obtain ⟨q0, q1, q2, q3, q4, q5⟩ := C0.out _ LW.out; clear hb)
    | (go_at_call_of 88 a3; refine (A3.out _ (P3.out.later (Later.trans A0.out (Hid.out (by assumption))))).mono ?_; rintro e w2 ⟨rfl, hb⟩; have LW := Lib.hid (Later.trans (show Later W0 _ from (Hid.out (by assumption))) hb); obtain ⟨q0, q1, q2, q3, q4, q5⟩ := C0.out _ LW.out; clear hb)
    | (go_at_call 89; refine (A4.out _ (P4.out.later (Later.trans A0.out (Hid.out (by assumption)))) (HO.out.later (Later.trans A0.out (Hid.out (by assumption))))).mono ?_; rintro e w2 ⟨rfl, hb⟩; have LW := Lib.hid (Later.trans (show Later W0 _ from (Hid.out (by assumption))) hb); obtain ⟨q0, q1, q2, q3, q4, q5⟩ := C0.out _ LW.out; clear hb))
              all_goals
                go_ret
                exact ⟨by rw [HW.out]; rfl, Later.trans A0.out (Hid.out (by assumption))⟩
            · cases b3
              · have HW : Hid (wrtB p = false) := Lib.hid (by rw [HW.out]; rfl)
                go_wp2_with (first
    | (go_at_call 78; refine (N4.out _).mono ?_; rintro e w2 ⟨rfl, hb⟩; have LW := Lib.hid (Later.trans (show Later W0 _ from (Hid.out (by assumption))) hb); obtain ⟨q0, q1, q2, q3, q4, q5⟩ := C0.out _ LW.out; clear hb)
    | (go_at_call_of 88 a1; refine (A1.out _ (P1.out.later (Later.trans A0.out (Hid.out (by assumption))))).mono ?_; rintro e w2 ⟨rfl, hb⟩; have LW := Lib.hid (Later.trans (show Later W0 _ from (Hid.out (by assumption))) hb); obtain ⟨q0, q1, q2, q3, q4, q5⟩ := C0.out _ LW.out; clear hb)
    | (go_at_call_of 88 a2; refine (A2.out _ (P2.out.later (Later.trans A0.out (Hid.out (by assumption))))).mono ?_; rintro e w2 ⟨rfl, hb⟩; have LW := Lib.hid (Later.trans (show Later W0 _ from (Hid.out (by assumption))) hb); obtain ⟨q0, q1, q2, q3, q4, q5⟩ := C0.out _ LW.out; clear hb)
    | (go_at_call_of 88 a3; refine (A3.out _ (P3.out.later (Later.trans A0.out (Hid.out (by assumption))))).mono ?_; rintro e w2 ⟨rfl, hb⟩; have LW := Lib.hid (Later.trans (show Later W0 _ from (Hid.out (by assumption))) hb); obtain ⟨q0, q1, q2, q3, q4, q5⟩ := C0.out _ LW.out; clear hb)
    | (go_at_call 89; refine (A4.out _ (P4.out.later (Later.trans A0.out (Hid.out (by assumption)))) (HO.out.later (Later.trans A0.out (Hid.out (by assumption))))).mono ?_; rintro e w2 ⟨rfl, hb⟩; have LW := Lib.hid (Later.trans (show Later W0 _ from (Hid.out (by assumption))) hb); obtain ⟨q0, q1, q2, q3, q4, q5⟩ := C0.out _ LW.out; clear hb))
                all_goals
                  go_ret
                  exact ⟨by rw [HW.out]; rfl, Later.trans A0.out (Hid.out (by assumption))⟩
              · have HW : Hid (wrtB p = b5) := Lib.hid (by rw [HW.out]; rfl)
                go_wp2_with (first
    | (go_at_call 78; refine (N4.out _).mono ?_; rintro e w2 ⟨rfl, hb⟩; have LW := Lib.hid (Later.trans (show Later W0 _ from (Hid.out (by assumption))) hb); obtain ⟨q0, q1, q2, q3, q4, q5⟩ := C0.out _ LW.out; clear hb)
    | (go_at_call_of 88 a1; refine (A1.out _ (P1.out.later (Later.trans A0.out (Hid.out (by assumption))))).mono ?_; rintro e w2 ⟨rfl, hb⟩; have LW := Lib.hid (Later.trans (show Later W0 _ from (Hid.out (by assumption))) hb); obtain ⟨q0, q1, q2, q3, q4, q5⟩ := C0.out _ LW.out; clear hb)
    | (go_at_call_of 88 a2; refine (A2.out _ (P2.out.later (Later.trans A0.out (Hid.out (by assumption))))).mono ?_; rintro e w2 ⟨rfl, hb⟩; have LW := Lib.hid (Later.trans (show Later W0 _ from (Hid.out (by assumption))) hb); obtain ⟨q0, q1, q2, q3, q4, q5⟩ := C0.out _ LW.out; clear hb)
    | (go_at_call_of 88 a3; refine (A3.out _ (P3.out.later (Later.trans A0.out (Hid.out (by assumption))))).mono ?_; rintro e w2 ⟨rfl, hb⟩; have LW := Lib.hid (Later.trans (show Later W0 _ from (Hid.out (by assumption))) hb); obtain ⟨q0, q1, q2, q3, q4, q5⟩ := C0.out _ LW.out; clear hb)
    | (go_at_call 89; refine (A4.out _ (P4.out.later (Later.trans A0.out (Hid.out (by assumption)))) (HO.out.later (Later.trans A0.out (Hid.out (by assumption))))).mono ?_; rintro e w2 ⟨rfl, hb⟩; have LW := Lib.hid (Later.trans (show Later W0 _ from (Hid.out (by assumption))) hb); obtain ⟨q0, q1, q2, q3, q4, q5⟩ := C0.out _ LW.out; clear hb))
                all_goals
                  go_ret
                  exact ⟨by rw [HW.out]; rfl, Later.trans A0.out (Hid.out (by assumption))⟩
    · have HW : Hid (wrtB p = (true && (true || true) && decide (1 ≤ n1) && decide (1 ≤ n3) && b1 && b2 && b3 && b5)) := Lib.hid (by rw [HW.out]; rfl)
      rcases (show n1 = 0 ∨ (1 ≤ n1 ∧ n3 = 0) ∨ (1 ≤ n1 ∧ 1 ≤ n3) by omega) with h | ⟨h, h'⟩ | ⟨h, h'⟩
      · subst h
        go_wp2_with (first
    | (go_at_call 78; refine (N4.out _).mono ?_; rintro e w2 ⟨rfl, hb⟩; have LW := Lib.hid (Later.trans (show Later W0 _ from (Hid.out (by assumption))) hb); obtain ⟨q0, q1, q2, q3, q4, q5⟩ := C0.out _ LW.out; clear hb)
    | (go_at_call_of 88 a1; refine (A1.out _ (P1.out.later (Later.trans A0.out (Hid.out (by assumption))))).mono ?_; rintro e w2 ⟨rfl, hb⟩; have LW := Lib.hid (Later.trans (show Later W0 _ from (Hid.out (by assumption))) hb); obtain ⟨q0, q1, q2, q3, q4, q5⟩ := C0.out _ LW.out; clear hb)
    | (go_at_call_of 88 a2; refine (A2.out _ (P2.out.later (Later.trans A0.out (Hid.out (by assumption))))).mono ?_; rintro e w2 ⟨rfl, hb⟩; have LW := Lib.hid (Later.trans (show Later W0 _ from (Hid.out (by assumption))) hb); obtain ⟨q0, q1, q2, q3, q4, q5⟩ := C0.out _ LW.out; clear hb)
    | (go_at_call_of 88 a3; refine (A3.out _ (P3.out.later (Later.trans A0.out (Hid.out (by assumption))))).mono ?_; rintro e w2 ⟨rfl, hb⟩; have LW := Lib.hid (Later.trans (show Later W0 _ from (Hid.out (by assumption))) hb); obtain ⟨q0, q1, q2, q3, q4, q5⟩ := C0.out _ LW.out; clear hb)
    | (go_at_call 89; refine (A4.out _ (P4.out.later (Later.trans A0.out (Hid.out (by assumption)))) (HO.out.later (Later.trans A0.out (Hid.out (by assumption))))).mono ?_; rintro e w2 ⟨rfl, hb⟩; have LW := Lib.hid (Later.trans (show Later W0 _ from (Hid.out (by assumption))) hb); obtain ⟨q0, q1, q2, q3, q4, q5⟩ := C0.out _ LW.out; clear hb))
        all_goals
          go_ret
          exact ⟨by rw [HW.out]; rfl, Later.trans A0.out (Hid.out (by assumption))⟩
      · subst h'
        rw [decide_eq_true h] at HW
        have e1 : ((n1 : Int) == 0) = false := by simp; omega
        go_wp2_with (first
    | (go_at_call 78; refine (N4.out _).mono ?_; rintro e w2 ⟨rfl, hb⟩; have LW := Lib.hid (Later.trans (show Later W0 _ from (Hid.out (by assumption))) hb); obtain ⟨q0, q1, q2, q3, q4, q5⟩ := C0.out _ LW.out; clear hb)
    | (go_at_call_of 88 a1; refine (A1.out _ (P1.out.later (Later.trans A0.out (Hid.out (by assumption))))).mono ?_; rintro e w2 ⟨rfl, hb⟩; have LW := Lib.hid (Later.trans (show Later W0 _ from (Hid.out (by assumption))) hb); obtain ⟨q0, q1, q2, q3, q4, q5⟩ := C0.out _ LW.out; clear hb)
    | (go_at_call_of 88 a2; refine (A2.out _ (P2.out.later (Later.trans A0.out (Hid.out (by assumption))))).mono ?_; rintro e w2 ⟨rfl, hb⟩; have LW := Lib.hid (Later.trans (show Later W0 _ from (Hid.out (by assumption))) hb); obtain ⟨q0, q1, q2, q3, q4, q5⟩ := C0.out _ LW.out; clear hb)
    | (go_at_call_of 88 a3; refine (A3.out _ (P3.out.later (Later.trans A0.out (Hid.out (by assumption))))).mono ?_; rintro e w2 ⟨rfl, hb⟩; have LW := Lib.hid (Later.trans (show Later W0 _ from (Hid.out (by assumption))) hb); obtain ⟨q0, q1, q2, q3, q4, q5⟩ := C0.out _ LW.out; clear hb)
    | (go_at_call 89; refine (A4.out _ (P4.out.later (Later.trans A0.out (Hid.out (by assumption)))) (HO.out.later (Later.trans A0.out (Hid.out (by assumption))))).mono ?_; rintro e w2 ⟨rfl, hb⟩; have LW := Lib.hid (Later.trans (show Later W0 _ from (Hid.out (by assumption))) hb); obtain ⟨q0, q1, q2, q3, q4, q5⟩ := C0.out _ LW.out; clear hb))
        all_goals
          go_ret
          exact ⟨by rw [HW.out]; rfl, Later.trans A0.out (Hid.out (by assumption))⟩
      · rw [decide_eq_true h, decide_eq_true h'] at HW
        have e1 : ((n1 : Int) == 0) = false := by simp; omega
        have e3 : ((n3 : Int) == 0) = false := by simp; omega
        clear h h'
        cases b1
        · have HW : Hid (wrtB p = false) := Lib.hid (by rw [HW.out]; rfl)
          go_wp2_with (first
    | (go_at_call 78; refine (N4.out _).mono ?_; rintro e w2 ⟨rfl, hb⟩; have LW := Lib.hid (Later.trans (show Later W0 _ from (Hid.out (by assumption))) hb); obtain ⟨q0, q1, q2, q3, q4, q5⟩ := C0.out _ LW.out; clear hb)
    | (go_at_call_of 88 a1; refine (A1.out _ (P1.out.later (Later.trans A0.out (Hid.out (by assumption))))).mono ?_; rintro e w2 ⟨rfl, hb⟩; have LW := Lib.hid (Later.trans (show Later W0 _ from (Hid.out (by assumption))) hb); obtain ⟨q0, q1, q2, q3, q4, q5⟩ := C0.out _ LW.out; clear hb)
    | (go_at_call_of 88 a2; refine (A2.out _ (P2.out.later (Later.trans A0.out (Hid.out (by assumption))))).mono ?_; rintro e w2 ⟨rfl, hb⟩; have LW := Lib.hid (Later.trans (show Later W0 _ from (Hid.out (by assumption))) hb); obtain ⟨q0, q1, q2, q3, q4, q5⟩ := C0.out _ LW.out; clear hb)
    | (go_at_call_of 88 a3; refine (A3.out _ (P3.out.later (Later.trans A0.out (Hid.out (by assumption))))).mono ?_; rintro e w2 ⟨rfl, hb⟩; have LW := Lib.hid (Later.trans (show Later W0 _ from (Hid.out (by assumption))) hb); obtain ⟨q0, q1, q2, q3, q4, q5⟩ := C0.out _ LW.out; clear hb)
    | (go_at_call 89; refine (A4.out _ (P4.out.later (Later.trans A0.out (Hid.out (by assumption)))) (HO.out.later (Later.trans A0.out (Hid.out (by assumption))))).mono ?_; rintro e w2 ⟨rfl, hb⟩; have LW := Lib.hid (Later.trans (show Later W0 _ from (Hid.out (by assumption))) hb); obtain ⟨q0, q1, q2, q3, q4, q5⟩ := C0.out _ LW.out; clear hb))
          all_goals
            go_ret
            exact ⟨by rw [HW.out]; rfl, Later.trans A0.out (Hid.out (by assumption))⟩
        · cases b2
          · have HW : Hid (wrtB p = false) := Lib.hid (by rw [HW.out]; rfl)
            go_wp2_with (first
    | (go_at_call 78; refine (N4.out _).mono ?_; rintro e w2 ⟨rfl, hb⟩; have LW := Lib.hid (Later.trans (show Later W0 _ from (Hid.out (by assumption))) hb); obtain ⟨q0, q1, q2, q3, q4, q5⟩ := C0.out _ LW.out; clear hb)
    | (go_at_call_of 88 a1; refine (A1.out _ (P1.out.later (Later.trans A0.out (Hid.out (by assumption))))).mono ?_; rintro e w2 ⟨rfl, hb⟩; have LW := Lib.hid (Later.trans (show Later W0 _ from (Hid.out (by assumption))) hb); obtain ⟨q0, q1, q2, q3, q4, q5⟩ := C0.out _ LW.out; clear hb)
    | (go_at_call_of 88 a2; refine (A2.out _ (P2.out.later (Later.trans A0.out (Hid.out (by assumption))))).mono ?_; rintro e w2 ⟨rfl, hb⟩; have LW := Lib.hid (Later.trans (show Later W0 _ from (Hid.out (by assumption))) hb); obtain ⟨q0, q1, q2, q3, q4, q5⟩ := C0.out _ LW.out; clear hb)
    | (go_at_call_of 88 a3; refine (A3.out _ (P3.out.later (Later.trans A0.out (Hid.out (by assumption))))).mono ?_; rintro e w2 ⟨rfl, hb⟩; have LW := Lib.hid (Later.trans (show Later W0 _ from (Hid.out (by assumption))) hb); obtain ⟨q0, q1, q2, q3, q4, q5⟩ := C0.out _ LW.out; clear hb)
    | (go_at_call 89; refine (A4.out _ (P4.out.later (Later.trans A0.out (Hid.out (by assumption)))) (HO.out.later (Later.trans A0.out (Hid.out (by assumption))))).mono ?_; rintro e w2 ⟨rfl, hb⟩; have LW := Lib.hid (Later.trans (show Later W0 _ from (Hid.out (by assumption))) hb); obtain ⟨q0, q1, q2, q3, q4, q5⟩ := C0.out _ LW.out; clear hb))
            all_goals
              go_ret
              exact ⟨by rw [HW.out]; rfl, Later.trans A0.out (Hid.out (by assumption))⟩
          · cases b3
            · have HW : Hid (wrtB p = false) := Lib.hid (by rw [HW.out]; rfl)
              go_wp2_with (first
    | (go_at_call 78; refine (N4.out _).mono ?_; rintro e w2 ⟨rfl, hb⟩; have LW := Lib.hid (Later.trans (show Later W0 _ from (Hid.out (by assumption))) hb); obtain ⟨q0, q1, q2, q3, q4, q5⟩ := C0.out _ LW.out; clear hb)
    | (go_at_call_of 88 a1; refine (A1.out _ (P1.out.later (Later.trans A0.out (Hid.out (by assumption))))).mono ?_; rintro e w2 ⟨rfl, hb⟩; have LW := Lib.hid (Later.trans (show Later W0 _ from (Hid.out (by assumption))) hb); obtain ⟨q0, q1, q2, q3, q4, q5⟩ := C0.out _ LW.out; clear hb)
    | (go_at_call_of 88 a2; refine (A2.out _ (P2.out.later (Later.trans A0.out (Hid.out (by assumption))))).mono ?_; rintro e w2 ⟨rfl, hb⟩; have LW := Lib.hid (Later.trans (show Later W0 _ from (Hid.out (by assumption))) hb); obtain ⟨q0, q1, q2, q3, q4, q5⟩ := C0.out _ LW.out; clear hb)
    | (go_at_call_of 88 a3; refine (A3.out _ (P3.out.later (Later.trans A0.out (Hid.out (by assumption))))).mono ?_; rintro e w2 ⟨rfl, hb⟩; have LW := Lib.hid (Later.trans (show Later W0 _ from (Hid.out (by assumption))) hb); obtain ⟨q0, q1, q2, q3, q4, q5⟩ := C0.out _ LW.out; clear hb)
    | (go_at_call 89; refine (A4.out _ (P4.out.later (Later.trans A0.out (Hid.out (by assumption)))) (HO.out.later (Later.trans A0.out (Hid.out (by assumption))))).mono ?_; rintro e w2 ⟨rfl, hb⟩; have LW := Lib.hid (Later.trans (show Later W0 _ from (Hid.out (by assumption))) hb); obtain ⟨q0, q1, q2, q3, q4, q5⟩ := C0.out _ LW.out; clear hb))
              all_goals
                go_ret
                exact ⟨by rw [HW.out]; rfl, Later.trans A0.out (Hid.out (by assumption))⟩
            · have HW : Hid (wrtB p = b5) := Lib.hid (by rw [HW.out]; rfl)
              go_wp2_with (first
    | (go_at_call 78; refine (N4.out _).mono ?_; rintro e w2 ⟨rfl, hb⟩; have LW := Lib.hid (Later.trans (show Later W0 _ from (Hid.out (by assumption))) hb); obtain ⟨q0, q1, q2, q3, q4, q5⟩ := C0.out _ LW.out; clear hb)
    | (go_at_call_of 88 a1; refine (A1.out _ (P1.out.later (Later.trans A0.out (Hid.out (by assumption))))).mono ?_; rintro e w2 ⟨rfl, hb⟩; have LW := Lib.hid (Later.trans (show Later W0 _ from (Hid.out (by assumption))) hb); obtain ⟨q0, q1, q2, q3, q4, q5⟩ := C0.out _ LW.out; clear hb)
    | (go_at_call_of 88 a2; refine (A2.out _ (P2.out.later (Later.trans A0.out (Hid.out (by assumption))))).mono ?_; rintro e w2 ⟨rfl, hb⟩; have LW := Lib.hid (Later.trans (show Later W0 _ from (Hid.out (by assumption))) hb); obtain ⟨q0, q1, q2, q3, q4, q5⟩ := C0.out _ LW.out; clear hb)
    | (go_at_call_of 88 a3; refine (A3.out _ (P3.out.later (Later.trans A0.out (Hid.out (by assumption))))).mono ?_; rintro e w2 ⟨rfl, hb⟩; have LW := Lib.hid (Later.trans (show Later W0 _ from (Hid.out (by assumption))) hb); obtain ⟨q0, q1, q2, q3, q4, q5⟩ := C0.out _ LW.out; clear hb)
    | (go_at_call 89; refine (A4.out _ (P4.out.later (Later.trans A0.out (Hid.out (by assumption)))) (HO.out.later (Later.trans A0.out (Hid.out (by assumption))))).mono ?_; rintro e w2 ⟨rfl, hb⟩; have LW := Lib.hid (Later.trans (show Later W0 _ from (Hid.out (by assumption))) hb); obtain ⟨q0, q1, q2, q3, q4, q5⟩ := C0.out _ LW.out; clear hb))
              all_goals
                go_ret
                exact ⟨by rw [HW.out]; rfl, Later.trans A0.out (Hid.out (by assumption))⟩
end Go.Proofs.YtokipobjpinhmaaDoor
namespace Go.Proofs.YtokipobjpinhmaaDoor
open Go.RowKit Go.Shelf
set_option maxHeartbeats 4000000
set_option maxRecDepth 100000
set_option linter.unusedVariables false
set_option linter.unusedSimpArgs false
theorem wrtB_model (p : Prg) : wrtB p = (nmB p.nm && (nmsB p.ins && decide (1 ≤ p.ins.length)) && (nmsB p.vrs && decide (0 ≤ p.vrs.length)) && (nmsB p.outs && decide (1 ≤ p.outs.length)) && (decide (p.grd = []) || nmB p.grd) && lnsB p.lns) := by
  unfold wrtB
  rw [decide_eq_true (Nat.zero_le p.vrs.length)]
  cases nmB p.nm <;> cases nmsB p.ins <;> cases decide (1 ≤ p.ins.length) <;> cases nmsB p.vrs <;> cases nmsB p.outs <;> cases decide (1 ≤ p.outs.length) <;> cases decide (p.grd = []) <;> cases nmB p.grd <;> cases lnsB p.lns <;> rfl
theorem s_IsWritten (v : Value) (p : Prg) (w : World) (hp : PgV w v p) (hl : p.lns.length ≤ 1000000000) : Calls Tryd.prog 51 #[v] w fun e w' => e = .returned (.bool (wrtB p)) ∧ Later w w' := by
  obtain ⟨a1, c1, a2, c2, a3, c3, a4, c4, rfl, h1, h2, h3, h4, h5, h6⟩ := hp
  have P1 := Lib.hid h1; have P2 := Lib.hid h2; have P3 := Lib.hid h3; have P4 := Lib.hid h4
  have N0 : Hid (∀ W, Calls Tryd.prog 74 #[.string (tx p.nm)] W fun e w' => e = .returned (.bool (nmB p.nm)) ∧ Later W w') := Lib.hid (fun W => s_Name (tx p.nm) W h5)
  have N4 : Hid (∀ W, Calls Tryd.prog 74 #[.string (tx p.grd)] W fun e w' => e = .returned (.bool (nmB p.grd)) ∧ Later W w') := Lib.hid (fun W => s_Name (tx p.grd) W h6)
  have A1 := Lib.hid (fun W h => s_Names a1 p.ins.length c1 p.ins 1 W (by omega) h)
  have A2 := Lib.hid (fun W h => s_Names a2 p.vrs.length c2 p.vrs 0 W (by omega) h)
  have A3 := Lib.hid (fun W h => s_Names a3 p.outs.length c3 p.outs 1 W (by omega) h)
  have EG : ((tx p.grd).toList.isEmpty) = decide (p.grd = []) := by
    rw [Lib.toList_data]
    show p.grd.isEmpty = _
    cases p.grd <;> simp
  have HW : Hid (wrtB p = (nmB p.nm && (nmsB p.ins && decide (1 ≤ p.ins.length)) && (nmsB p.vrs && decide (0 ≤ p.vrs.length)) && (nmsB p.outs && decide (1 ≤ p.outs.length)) && (decide (p.grd = []) || nmB p.grd) && lnsB p.lns)) := Lib.hid (wrtB_model p)
  have hn4 := P4.out.2.1
  obtain ⟨s0, hs0⟩ : ∃ q, q = tx p.nm := ⟨_, rfl⟩
  obtain ⟨s4, hs4⟩ : ∃ q, q = tx p.grd := ⟨_, rfl⟩
  obtain ⟨n1, hn1q⟩ : ∃ q, q = p.ins.length := ⟨_, rfl⟩
  obtain ⟨n2, hn2q⟩ : ∃ q, q = p.vrs.length := ⟨_, rfl⟩
  obtain ⟨n3, hn3q⟩ : ∃ q, q = p.outs.length := ⟨_, rfl⟩
  obtain ⟨n4, hn4q⟩ : ∃ q, q = p.lns.length := ⟨_, rfl⟩
  obtain ⟨M, hM⟩ : ∃ q, q = p.lns := ⟨_, rfl⟩
  obtain ⟨b0, hb0⟩ : ∃ q, q = nmB p.nm := ⟨_, rfl⟩
  obtain ⟨b4, hb4⟩ : ∃ q, q = nmB p.grd := ⟨_, rfl⟩
  obtain ⟨g0, hg0⟩ : ∃ q, q = decide (p.grd = []) := ⟨_, rfl⟩
  obtain ⟨d1, hd1⟩ : ∃ q, q = (nmsB p.ins && decide (1 ≤ p.ins.length)) := ⟨_, rfl⟩
  obtain ⟨d2, hd2⟩ : ∃ q, q = (nmsB p.vrs && decide (0 ≤ p.vrs.length)) := ⟨_, rfl⟩
  obtain ⟨d3, hd3⟩ : ∃ q, q = (nmsB p.outs && decide (1 ≤ p.outs.length)) := ⟨_, rfl⟩
  rw [← hd1] at A1 HW; rw [← hd2] at A2 HW; rw [← hd3] at A3 HW
  rw [← hs0] at N0; rw [← hs4] at N4 EG; rw [← hb0] at N0 HW; rw [← hb4] at N4 HW; rw [← hg0] at EG HW
  rw [← hn1q] at A1 P1; rw [← hn2q] at A2 P2; rw [← hn3q] at A3 P3; rw [← hn4q] at P4 hn4 hl; rw [← hM] at P4 HW
  rw [← hs0, ← hs4, ← hn1q, ← hn2q, ← hn3q, ← hn4q]
  have HL := Lib.hid P4.out.1
  clear hs0 hs4 hn1q hn2q hn3q hn4q hM hb0 hb4 hg0 hd1 hd2 hd3 h1 h2 h3 h4 h5 h6
  have q0 : (w.alloc (.cells #[.string s0, .slice a1 n1 c1, .slice a2 n2 c2, .slice a3 n3 c3, .string s4, .slice a4 n4 c4] 27)).cell? ⟨w.heap.size, 0, none⟩ = some (.string s0) := by rw [cell_of_row _ _ 0 _ _ (0, 0) (heap_alloc_new w _)]; rfl
  have q1 : (w.alloc (.cells #[.string s0, .slice a1 n1 c1, .slice a2 n2 c2, .slice a3 n3 c3, .string s4, .slice a4 n4 c4] 27)).cell? ⟨w.heap.size, 1, none⟩ = some (.slice a1 n1 c1) := by rw [cell_of_row _ _ 1 _ _ (0, 0) (heap_alloc_new w _)]; rfl
  have q2 : (w.alloc (.cells #[.string s0, .slice a1 n1 c1, .slice a2 n2 c2, .slice a3 n3 c3, .string s4, .slice a4 n4 c4] 27)).cell? ⟨w.heap.size, 2, none⟩ = some (.slice a2 n2 c2) := by rw [cell_of_row _ _ 2 _ _ (0, 0) (heap_alloc_new w _)]; rfl
  have q3 : (w.alloc (.cells #[.string s0, .slice a1 n1 c1, .slice a2 n2 c2, .slice a3 n3 c3, .string s4, .slice a4 n4 c4] 27)).cell? ⟨w.heap.size, 3, none⟩ = some (.slice a3 n3 c3) := by rw [cell_of_row _ _ 3 _ _ (0, 0) (heap_alloc_new w _)]; rfl
  have q4 : (w.alloc (.cells #[.string s0, .slice a1 n1 c1, .slice a2 n2 c2, .slice a3 n3 c3, .string s4, .slice a4 n4 c4] 27)).cell? ⟨w.heap.size, 4, none⟩ = some (.string s4) := by rw [cell_of_row _ _ 4 _ _ (0, 0) (heap_alloc_new w _)]; rfl
  have q5 : (w.alloc (.cells #[.string s0, .slice a1 n1 c1, .slice a2 n2 c2, .slice a3 n3 c3, .string s4, .slice a4 n4 c4] 27)).cell? ⟨w.heap.size, 5, none⟩ = some (.slice a4 n4 c4) := by rw [cell_of_row _ _ 5 _ _ (0, 0) (heap_alloc_new w _)]; rfl
  have hW0 : w.heap.size < (w.alloc (.cells #[.string s0, .slice a1 n1 c1, .slice a2 n2 c2, .slice a3 n3 c3, .string s4, .slice a4 n4 c4] 27)).heap.size := by rw [World.size_alloc]; exact Nat.lt_succ_self _
  have C0 : Hid (∀ W', Later (w.alloc (.cells #[.string s0, .slice a1 n1 c1, .slice a2 n2 c2, .slice a3 n3 c3, .string s4, .slice a4 n4 c4] 27)) W' → W'.cell? ⟨w.heap.size, 0, none⟩ = some (.string s0) ∧ W'.cell? ⟨w.heap.size, 1, none⟩ = some (.slice a1 n1 c1) ∧ W'.cell? ⟨w.heap.size, 2, none⟩ = some (.slice a2 n2 c2) ∧ W'.cell? ⟨w.heap.size, 3, none⟩ = some (.slice a3 n3 c3) ∧ W'.cell? ⟨w.heap.size, 4, none⟩ = some (.string s4) ∧ W'.cell? ⟨w.heap.size, 5, none⟩ = some (.slice a4 n4 c4)) := Lib.hid (fun W' q => ⟨by rw [q.cell (p := ⟨w.heap.size, 0, none⟩) hW0]; exact q0, by rw [q.cell (p := ⟨w.heap.size, 1, none⟩) hW0]; exact q1, by rw [q.cell (p := ⟨w.heap.size, 2, none⟩) hW0]; exact q2, by rw [q.cell (p := ⟨w.heap.size, 3, none⟩) hW0]; exact q3, by rw [q.cell (p := ⟨w.heap.size, 4, none⟩) hW0]; exact q4, by rw [q.cell (p := ⟨w.heap.size, 5, none⟩) hW0]; exact q5⟩)
  have A0 : Hid (Later w (w.alloc (.cells #[.string s0, .slice a1 n1 c1, .slice a2 n2 c2, .slice a3 n3 c3, .string s4, .slice a4 n4 c4] 27))) := Lib.hid ((Later.refl _).alloc _)
  clear hW0
  go_enter Tryd.func51, Tryd.ntmps51
  go_wp2_with fail
  generalize w.alloc (.cells #[.string s0, .slice a1 n1 c1, .slice a2 n2 c2, .slice a3 n3 c3, .string s4, .slice a4 n4 c4] 27) = W0 at C0 A0 q0 q1 q2 q3 q4 q5 ⊢
  clear q0 q1 q2 q3 q4 q5
  refine (N0.out _).mono ?_
  rintro e w1 ⟨rfl, hb⟩
  have L1 := Lib.hid (show Later W0 w1 from hb)
  obtain ⟨q0, q1, q2, q3, q4, q5⟩ := C0.out _ hb
  clear hb
  cases b0
  · have HWF : Hid (wrtB p = false) := Lib.hid (by rw [HW.out]; rfl)
    go_wp2_with fail
    all_goals
      go_ret
      exact ⟨by rw [HWF.out]; rfl, Later.trans A0.out L1.out⟩
  cases d1
  · have HWF : Hid (wrtB p = false) := Lib.hid (by rw [HW.out]; rfl)
    go_wp2_with (first
    | (go_at_call_of 74 s4; refine (N4.out _).mono ?_; rintro e w2 ⟨rfl, hb⟩; have LW := Lib.hid (Later.trans (show Later W0 _ from (Hid.out (by assumption))) hb); obtain ⟨q0, q1, q2, q3, q4, q5⟩ := C0.out _ LW.out; clear hb)
    | (go_at_call_of 96 a1; refine (A1.out _ (P1.out.later (Later.trans A0.out (Hid.out (by assumption))))).mono ?_; rintro e w2 ⟨rfl, hb⟩; have LW := Lib.hid (Later.trans (show Later W0 _ from (Hid.out (by assumption))) hb); obtain ⟨q0, q1, q2, q3, q4, q5⟩ := C0.out _ LW.out; clear hb)
    | (go_at_call_of 96 a2; refine (A2.out _ (P2.out.later (Later.trans A0.out (Hid.out (by assumption))))).mono ?_; rintro e w2 ⟨rfl, hb⟩; have LW := Lib.hid (Later.trans (show Later W0 _ from (Hid.out (by assumption))) hb); obtain ⟨q0, q1, q2, q3, q4, q5⟩ := C0.out _ LW.out; clear hb)
    | (go_at_call_of 96 a3; refine (A3.out _ (P3.out.later (Later.trans A0.out (Hid.out (by assumption))))).mono ?_; rintro e w2 ⟨rfl, hb⟩; have LW := Lib.hid (Later.trans (show Later W0 _ from (Hid.out (by assumption))) hb); obtain ⟨q0, q1, q2, q3, q4, q5⟩ := C0.out _ LW.out; clear hb))
    all_goals
      go_ret
      exact ⟨by rw [HWF.out]; rfl, Later.trans A0.out (Hid.out (by assumption))⟩
  cases d2
  · have HWF : Hid (wrtB p = false) := Lib.hid (by rw [HW.out]; rfl)
    go_wp2_with (first
    | (go_at_call_of 74 s4; refine (N4.out _).mono ?_; rintro e w2 ⟨rfl, hb⟩; have LW := Lib.hid (Later.trans (show Later W0 _ from (Hid.out (by assumption))) hb); obtain ⟨q0, q1, q2, q3, q4, q5⟩ := C0.out _ LW.out; clear hb)
    | (go_at_call_of 96 a1; refine (A1.out _ (P1.out.later (Later.trans A0.out (Hid.out (by assumption))))).mono ?_; rintro e w2 ⟨rfl, hb⟩; have LW := Lib.hid (Later.trans (show Later W0 _ from (Hid.out (by assumption))) hb); obtain ⟨q0, q1, q2, q3, q4, q5⟩ := C0.out _ LW.out; clear hb)
    | (go_at_call_of 96 a2; refine (A2.out _ (P2.out.later (Later.trans A0.out (Hid.out (by assumption))))).mono ?_; rintro e w2 ⟨rfl, hb⟩; have LW := Lib.hid (Later.trans (show Later W0 _ from (Hid.out (by assumption))) hb); obtain ⟨q0, q1, q2, q3, q4, q5⟩ := C0.out _ LW.out; clear hb)
    | (go_at_call_of 96 a3; refine (A3.out _ (P3.out.later (Later.trans A0.out (Hid.out (by assumption))))).mono ?_; rintro e w2 ⟨rfl, hb⟩; have LW := Lib.hid (Later.trans (show Later W0 _ from (Hid.out (by assumption))) hb); obtain ⟨q0, q1, q2, q3, q4, q5⟩ := C0.out _ LW.out; clear hb))
    all_goals
      go_ret
      exact ⟨by rw [HWF.out]; rfl, Later.trans A0.out (Hid.out (by assumption))⟩
  cases d3
  · have HWF : Hid (wrtB p = false) := Lib.hid (by rw [HW.out]; rfl)
    go_wp2_with (first
    | (go_at_call_of 74 s4; refine (N4.out _).mono ?_; rintro e w2 ⟨rfl, hb⟩; have LW := Lib.hid (Later.trans (show Later W0 _ from (Hid.out (by assumption))) hb); obtain ⟨q0, q1, q2, q3, q4, q5⟩ := C0.out _ LW.out; clear hb)
    | (go_at_call_of 96 a1; refine (A1.out _ (P1.out.later (Later.trans A0.out (Hid.out (by assumption))))).mono ?_; rintro e w2 ⟨rfl, hb⟩; have LW := Lib.hid (Later.trans (show Later W0 _ from (Hid.out (by assumption))) hb); obtain ⟨q0, q1, q2, q3, q4, q5⟩ := C0.out _ LW.out; clear hb)
    | (go_at_call_of 96 a2; refine (A2.out _ (P2.out.later (Later.trans A0.out (Hid.out (by assumption))))).mono ?_; rintro e w2 ⟨rfl, hb⟩; have LW := Lib.hid (Later.trans (show Later W0 _ from (Hid.out (by assumption))) hb); obtain ⟨q0, q1, q2, q3, q4, q5⟩ := C0.out _ LW.out; clear hb)
    | (go_at_call_of 96 a3; refine (A3.out _ (P3.out.later (Later.trans A0.out (Hid.out (by assumption))))).mono ?_; rintro e w2 ⟨rfl, hb⟩; have LW := Lib.hid (Later.trans (show Later W0 _ from (Hid.out (by assumption))) hb); obtain ⟨q0, q1, q2, q3, q4, q5⟩ := C0.out _ LW.out; clear hb))
    all_goals
      go_ret
      exact ⟨by rw [HWF.out]; rfl, Later.trans A0.out (Hid.out (by assumption))⟩
  cases g0
  · cases b4
    · have HWF : Hid (wrtB p = false) := Lib.hid (by rw [HW.out]; rfl)
      go_wp2_with (first
    | (go_at_call_of 74 s4; refine (N4.out _).mono ?_; rintro e w2 ⟨rfl, hb⟩; have LW := Lib.hid (Later.trans (show Later W0 _ from (Hid.out (by assumption))) hb); obtain ⟨q0, q1, q2, q3, q4, q5⟩ := C0.out _ LW.out; clear hb)
    | (go_at_call_of 96 a1; refine (A1.out _ (P1.out.later (Later.trans A0.out (Hid.out (by assumption))))).mono ?_; rintro e w2 ⟨rfl, hb⟩; have LW := Lib.hid (Later.trans (show Later W0 _ from (Hid.out (by assumption))) hb); obtain ⟨q0, q1, q2, q3, q4, q5⟩ := C0.out _ LW.out; clear hb)
    | (go_at_call_of 96 a2; refine (A2.out _ (P2.out.later (Later.trans A0.out (Hid.out (by assumption))))).mono ?_; rintro e w2 ⟨rfl, hb⟩; have LW := Lib.hid (Later.trans (show Later W0 _ from (Hid.out (by assumption))) hb); obtain ⟨q0, q1, q2, q3, q4, q5⟩ := C0.out _ LW.out; clear hb)
    | (go_at_call_of 96 a3; refine (A3.out _ (P3.out.later (Later.trans A0.out (Hid.out (by assumption))))).mono ?_; rintro e w2 ⟨rfl, hb⟩; have LW := Lib.hid (Later.trans (show Later W0 _ from (Hid.out (by assumption))) hb); obtain ⟨q0, q1, q2, q3, q4, q5⟩ := C0.out _ LW.out; clear hb))
      all_goals
        go_ret
        exact ⟨by rw [HWF.out]; rfl, Later.trans A0.out (Hid.out (by assumption))⟩
    · have HW : Hid (wrtB p = lnsB M) := Lib.hid (by rw [HW.out]; rfl)
      go_wp2_with (first
          | (go_at_call_of 74 s4; refine (N4.out _).mono ?_; rintro e w2 ⟨rfl, hb⟩; have LW := Lib.hid (Later.trans (show Later W0 _ from (Hid.out (by assumption))) hb); obtain ⟨q0, q1, q2, q3, q4, q5⟩ := C0.out _ LW.out; clear hb)
          | (go_at_call_of 96 a1; refine (A1.out _ (P1.out.later (Later.trans A0.out (Hid.out (by assumption))))).mono ?_; rintro e w2 ⟨rfl, hb⟩; have LW := Lib.hid (Later.trans (show Later W0 _ from (Hid.out (by assumption))) hb); obtain ⟨q0, q1, q2, q3, q4, q5⟩ := C0.out _ LW.out; clear hb)
          | (go_at_call_of 96 a2; refine (A2.out _ (P2.out.later (Later.trans A0.out (Hid.out (by assumption))))).mono ?_; rintro e w2 ⟨rfl, hb⟩; have LW := Lib.hid (Later.trans (show Later W0 _ from (Hid.out (by assumption))) hb); obtain ⟨q0, q1, q2, q3, q4, q5⟩ := C0.out _ LW.out; clear hb)
          | (go_at_call_of 96 a3; refine (A3.out _ (P3.out.later (Later.trans A0.out (Hid.out (by assumption))))).mono ?_; rintro e w2 ⟨rfl, hb⟩; have LW := Lib.hid (Later.trans (show Later W0 _ from (Hid.out (by assumption))) hb); obtain ⟨q0, q1, q2, q3, q4, q5⟩ := C0.out _ LW.out; clear hb))
      clear q0 q1 q2 q3 q4 q5
      go_loopw [3] (fun i wr => ∃ k : Nat, k ≤ n4 ∧ i = .int .i64 k ∧ Later W0 wr ∧ Hid (∀ j, j < k → lnOk M j = true)) (fun i _ => n4 - (intOf i).toNat)
      case atStart => exact ⟨0, by omega, rfl, (Hid.out (by assumption)), Lib.hid (by intro j h; omega)⟩
      case round =>
        obtain ⟨k, hk, rfl, hb, HI⟩ := hrel
        have B3 := Lib.hid hb
        obtain ⟨q0, q1, q2, q3, q4, q5⟩ := C0.out _ hb
        by_cases hlt : k < n4
        · have PL := Lib.hid (P4.out.later (Later.trans A0.out hb))
          obtain ⟨b, off, ta, tc, rfl, z0, z1, z2⟩ := PL.out.2.2.1 k hlt
          have hle := (PL.out.rng k hlt).1
          have hle2 := (PL.out.rng k hlt).2
          have HT2 := Lib.hid z2
          have IN : Hid (∀ W', Calls Tryd.prog 74 #[.string (tx (ltx M k))] W' fun e w' => e = .returned (.bool (nmB (ltx M k))) ∧ Later W' w') := Lib.hid (fun W' => s_Name (tx (ltx M k)) W' hle)
          have IE := Lib.hid (fun W' h1 => s_IsExpression ta (lrx M k).length tc (lrx M k) W' h1 (by omega))
          have HK : Hid (lnOk M k = (nmB (ltx M k) && exB (lrx M k))) := Lib.hid rfl
          obtain ⟨y, hy⟩ : ∃ y, y = tx (ltx M k) := ⟨_, rfl⟩
          obtain ⟨q, hq⟩ : ∃ y, y = (lrx M k).length := ⟨_, rfl⟩
          obtain ⟨t1, ht1⟩ : ∃ b, b = nmB (ltx M k) := ⟨_, rfl⟩
          obtain ⟨t2, ht2⟩ : ∃ b, b = exB (lrx M k) := ⟨_, rfl⟩
          rw [← hy] at z0 IN; rw [← hq] at z1 IE HT2
          rw [← ht1] at IN HK; rw [← ht2] at IE HK
          have Z0 := Lib.hid z0; have Z1 := Lib.hid z1
          have KL : Hid (∀ W', Later wr W' → W'.cell? ⟨b, off + k * 2, none⟩ = some (.string y) ∧ W'.cell? ⟨b, off + k * 2 + 1, none⟩ = some (.slice ta q tc)) := Lib.hid (fun W' h => ⟨by rw [h.cell (p := ⟨b, off + k * 2, none⟩) (cell_lt Z0.out)]; exact Z0.out, by rw [h.cell (p := ⟨b, off + k * 2 + 1, none⟩) (cell_lt Z0.out)]; exact Z1.out⟩)
          clear hy hq ht1 ht2 hb hle hle2 z2
          cases t1
          · have HB : Hid (lnsB M = false) := Lib.hid (by unfold lnsB; rw [allL_bad M k (by rw [HL.out]; exact hlt) (by rw [HK.out]; rfl)]; rfl)
            go_wp2_with (go_at_call 74; refine (IN.out _).mono ?_; rintro e w3 ⟨rfl, hb⟩; have L3 := Lib.hid (Later.trans B3.out hb); obtain ⟨q0, q1, q2, q3, q4, q5⟩ := C0.out _ L3.out; obtain ⟨z0, z1⟩ := KL.out _ hb; clear hb)
            all_goals
              go_ret
              exact ⟨by rw [HW.out, HB.out]; rfl, Later.trans A0.out L3.out⟩
          · cases t2
            · have HB : Hid (lnsB M = false) := Lib.hid (by unfold lnsB; rw [allL_bad M k (by rw [HL.out]; exact hlt) (by rw [HK.out]; rfl)]; rfl)
              go_wp2_with (first | (go_at_call 74; refine (IN.out _).mono ?_; rintro e w3 ⟨rfl, hb⟩; have LR := Lib.hid hb; have L3 := Lib.hid (Later.trans B3.out hb); obtain ⟨q0, q1, q2, q3, q4, q5⟩ := C0.out _ L3.out; obtain ⟨z0, z1⟩ := KL.out _ hb; clear hb) | (go_at_call 97; refine (IE.out _ (HT2.out.later LR.out)).mono ?_; rintro e w4 ⟨rfl, hb⟩; have L4 := Lib.hid (Later.trans L3.out hb); clear hb))
              all_goals
                go_ret
                exact ⟨by rw [HW.out, HB.out]; rfl, Later.trans A0.out L4.out⟩
            · go_wp2_with (first | (go_at_call 74; refine (IN.out _).mono ?_; rintro e w3 ⟨rfl, hb⟩; have LR := Lib.hid hb; have L3 := Lib.hid (Later.trans B3.out hb); obtain ⟨q0, q1, q2, q3, q4, q5⟩ := C0.out _ L3.out; obtain ⟨z0, z1⟩ := KL.out _ hb; clear hb) | (go_at_call 97; refine (IE.out _ (HT2.out.later LR.out)).mono ?_; rintro e w4 ⟨rfl, hb⟩; have L4 := Lib.hid (Later.trans L3.out hb); clear hb))
              all_goals
                go_roundw
                case rel =>
                  refine ⟨k + 1, by omega, by go_num, L4.out, Lib.hid ?_⟩
                  intro q hq
                  rcases Nat.lt_or_ge q k with h1 | h1
                  · exact HI.out q h1
                  · obtain rfl : q = k := by omega
                    exact HK.out
                case measure => simp [intOf]; omega
        · obtain rfl : k = n4 := by omega
          have HF : Hid (lnsB M = (decide ((1 : Int) ≤ (k : Int)) && decide ((k : Int) ≤ 40))) := Lib.hid (by
            unfold lnsB; rw [allL_all M (by rw [HL.out]; exact HI.out), HL.out, Bool.true_and]
            congr 1
            · exact decide_eq_decide.2 (by omega)
            · exact decide_eq_decide.2 (by omega))
          have IR := Lib.hid (fun W' => s_InR (k : Int) 1 40 W' ⟨by omega, by omega⟩)
          obtain ⟨t, ht⟩ : ∃ t, t = (decide ((1 : Int) ≤ (k : Int)) && decide ((k : Int) ≤ 40)) := ⟨_, rfl⟩
          rw [← ht] at HF IR
          clear hb ht
          go_wp2_with (go_at_call 98; refine (IR.out _).mono ?_; rintro e w' ⟨rfl, rfl⟩)
          go_ret
          exact ⟨by rw [HW.out, HF.out]; rfl, Later.trans A0.out B3.out⟩
  · have HW : Hid (wrtB p = lnsB M) := Lib.hid (by rw [HW.out]; rfl)
    go_wp2_with (first
        | (go_at_call_of 74 s4; refine (N4.out _).mono ?_; rintro e w2 ⟨rfl, hb⟩; have LW := Lib.hid (Later.trans (show Later W0 _ from (Hid.out (by assumption))) hb); obtain ⟨q0, q1, q2, q3, q4, q5⟩ := C0.out _ LW.out; clear hb)
        | (go_at_call_of 96 a1; refine (A1.out _ (P1.out.later (Later.trans A0.out (Hid.out (by assumption))))).mono ?_; rintro e w2 ⟨rfl, hb⟩; have LW := Lib.hid (Later.trans (show Later W0 _ from (Hid.out (by assumption))) hb); obtain ⟨q0, q1, q2, q3, q4, q5⟩ := C0.out _ LW.out; clear hb)
        | (go_at_call_of 96 a2; refine (A2.out _ (P2.out.later (Later.trans A0.out (Hid.out (by assumption))))).mono ?_; rintro e w2 ⟨rfl, hb⟩; have LW := Lib.hid (Later.trans (show Later W0 _ from (Hid.out (by assumption))) hb); obtain ⟨q0, q1, q2, q3, q4, q5⟩ := C0.out _ LW.out; clear hb)
        | (go_at_call_of 96 a3; refine (A3.out _ (P3.out.later (Later.trans A0.out (Hid.out (by assumption))))).mono ?_; rintro e w2 ⟨rfl, hb⟩; have LW := Lib.hid (Later.trans (show Later W0 _ from (Hid.out (by assumption))) hb); obtain ⟨q0, q1, q2, q3, q4, q5⟩ := C0.out _ LW.out; clear hb))
    clear q0 q1 q2 q3 q4 q5
    go_loopw [3] (fun i wr => ∃ k : Nat, k ≤ n4 ∧ i = .int .i64 k ∧ Later W0 wr ∧ Hid (∀ j, j < k → lnOk M j = true)) (fun i _ => n4 - (intOf i).toNat)
    case atStart => exact ⟨0, by omega, rfl, (Hid.out (by assumption)), Lib.hid (by intro j h; omega)⟩
    case round =>
      obtain ⟨k, hk, rfl, hb, HI⟩ := hrel
      have B3 := Lib.hid hb
      obtain ⟨q0, q1, q2, q3, q4, q5⟩ := C0.out _ hb
      by_cases hlt : k < n4
      · have PL := Lib.hid (P4.out.later (Later.trans A0.out hb))
        obtain ⟨b, off, ta, tc, rfl, z0, z1, z2⟩ := PL.out.2.2.1 k hlt
        have hle := (PL.out.rng k hlt).1
        have hle2 := (PL.out.rng k hlt).2
        have HT2 := Lib.hid z2
        have IN : Hid (∀ W', Calls Tryd.prog 74 #[.string (tx (ltx M k))] W' fun e w' => e = .returned (.bool (nmB (ltx M k))) ∧ Later W' w') := Lib.hid (fun W' => s_Name (tx (ltx M k)) W' hle)
        have IE := Lib.hid (fun W' h1 => s_IsExpression ta (lrx M k).length tc (lrx M k) W' h1 (by omega))
        have HK : Hid (lnOk M k = (nmB (ltx M k) && exB (lrx M k))) := Lib.hid rfl
        obtain ⟨y, hy⟩ : ∃ y, y = tx (ltx M k) := ⟨_, rfl⟩
        obtain ⟨q, hq⟩ : ∃ y, y = (lrx M k).length := ⟨_, rfl⟩
        obtain ⟨t1, ht1⟩ : ∃ b, b = nmB (ltx M k) := ⟨_, rfl⟩
        obtain ⟨t2, ht2⟩ : ∃ b, b = exB (lrx M k) := ⟨_, rfl⟩
        rw [← hy] at z0 IN; rw [← hq] at z1 IE HT2
        rw [← ht1] at IN HK; rw [← ht2] at IE HK
        have Z0 := Lib.hid z0; have Z1 := Lib.hid z1
        have KL : Hid (∀ W', Later wr W' → W'.cell? ⟨b, off + k * 2, none⟩ = some (.string y) ∧ W'.cell? ⟨b, off + k * 2 + 1, none⟩ = some (.slice ta q tc)) := Lib.hid (fun W' h => ⟨by rw [h.cell (p := ⟨b, off + k * 2, none⟩) (cell_lt Z0.out)]; exact Z0.out, by rw [h.cell (p := ⟨b, off + k * 2 + 1, none⟩) (cell_lt Z0.out)]; exact Z1.out⟩)
        clear hy hq ht1 ht2 hb hle hle2 z2
        cases t1
        · have HB : Hid (lnsB M = false) := Lib.hid (by unfold lnsB; rw [allL_bad M k (by rw [HL.out]; exact hlt) (by rw [HK.out]; rfl)]; rfl)
          go_wp2_with (go_at_call 74; refine (IN.out _).mono ?_; rintro e w3 ⟨rfl, hb⟩; have L3 := Lib.hid (Later.trans B3.out hb); obtain ⟨q0, q1, q2, q3, q4, q5⟩ := C0.out _ L3.out; obtain ⟨z0, z1⟩ := KL.out _ hb; clear hb)
          all_goals
            go_ret
            exact ⟨by rw [HW.out, HB.out]; rfl, Later.trans A0.out L3.out⟩
        · cases t2
          · have HB : Hid (lnsB M = false) := Lib.hid (by unfold lnsB; rw [allL_bad M k (by rw [HL.out]; exact hlt) (by rw [HK.out]; rfl)]; rfl)
            go_wp2_with (first | (go_at_call 74; refine (IN.out _).mono ?_; rintro e w3 ⟨rfl, hb⟩; have LR := Lib.hid hb; have L3 := Lib.hid (Later.trans B3.out hb); obtain ⟨q0, q1, q2, q3, q4, q5⟩ := C0.out _ L3.out; obtain ⟨z0, z1⟩ := KL.out _ hb; clear hb) | (go_at_call 97; refine (IE.out _ (HT2.out.later LR.out)).mono ?_; rintro e w4 ⟨rfl, hb⟩; have L4 := Lib.hid (Later.trans L3.out hb); clear hb))
            all_goals
              go_ret
              exact ⟨by rw [HW.out, HB.out]; rfl, Later.trans A0.out L4.out⟩
          · go_wp2_with (first | (go_at_call 74; refine (IN.out _).mono ?_; rintro e w3 ⟨rfl, hb⟩; have LR := Lib.hid hb; have L3 := Lib.hid (Later.trans B3.out hb); obtain ⟨q0, q1, q2, q3, q4, q5⟩ := C0.out _ L3.out; obtain ⟨z0, z1⟩ := KL.out _ hb; clear hb) | (go_at_call 97; refine (IE.out _ (HT2.out.later LR.out)).mono ?_; rintro e w4 ⟨rfl, hb⟩; have L4 := Lib.hid (Later.trans L3.out hb); clear hb))
            all_goals
              go_roundw
              case rel =>
                refine ⟨k + 1, by omega, by go_num, L4.out, Lib.hid ?_⟩
                intro q hq
                rcases Nat.lt_or_ge q k with h1 | h1
                · exact HI.out q h1
                · obtain rfl : q = k := by omega
                  exact HK.out
              case measure => simp [intOf]; omega
      · obtain rfl : k = n4 := by omega
        have HF : Hid (lnsB M = (decide ((1 : Int) ≤ (k : Int)) && decide ((k : Int) ≤ 40))) := Lib.hid (by
          unfold lnsB; rw [allL_all M (by rw [HL.out]; exact HI.out), HL.out, Bool.true_and]
          congr 1
          · exact decide_eq_decide.2 (by omega)
          · exact decide_eq_decide.2 (by omega))
        have IR := Lib.hid (fun W' => s_InR (k : Int) 1 40 W' ⟨by omega, by omega⟩)
        obtain ⟨t, ht⟩ : ∃ t, t = (decide ((1 : Int) ≤ (k : Int)) && decide ((k : Int) ≤ 40)) := ⟨_, rfl⟩
        rw [← ht] at HF IR
        clear hb ht
        go_wp2_with (go_at_call 98; refine (IR.out _).mono ?_; rintro e w' ⟨rfl, rfl⟩)
        go_ret
        exact ⟨by rw [HW.out, HF.out]; rfl, Later.trans A0.out B3.out⟩
end Go.Proofs.YtokipobjpinhmaaDoor
namespace Go.Proofs.YtokipobjpinhmaaDoor
open Go.RowKit Go.Shelf
set_option maxHeartbeats 4000000
set_option maxRecDepth 100000
set_option linter.unusedVariables false
set_option linter.unusedSimpArgs false
/-- what LineOf says -/
def lnV (p : Prg) (x : List UInt8) : Int := if wrtB p = true then (if ixV (tgs p.lns) x < 0 then 0 else ixV (tgs p.lns) x) else 0
def lnE (p : Prg) (x : List UInt8) : Int := if wrtB p = true then (if ixV (tgs p.lns) x < 0 then 4 else 0) else 1
theorem ix_rng (p : Prg) (x : List UInt8) (h : p.lns.length ≤ 1048576) : -1 ≤ ixV (tgs p.lns) x ∧ ixV (tgs p.lns) x ≤ 1048576 := by
  have := ixV_lo (tgs p.lns) x
  rw [tgs_len] at this
  omega
theorem tgs_short {w : World} {a : Option Addr} {n : Nat} {M : List Lne} (h : Lns w a n M) : ∀ x ∈ tgs M, x.length ≤ 1048576 := by
  intro x hx
  obtain ⟨y, hy, rfl⟩ := List.mem_map.1 hx
  exact (h.2.2.2 y hy).1
theorem i_LineOf (v : Value) (p : Prg) (x : List UInt8) (w : World) (hp : PgV w v p) (ho : Ops w) (hl : p.lns.length ≤ 1048576) :
    Calls Tryd.prog 22 #[v, .string (tx x)] w fun e w' => e = .returned (.tuple #[.int .i64 (lnV p x), .int .i64 (lnE p x)]) ∧ Later w w' := by
  have IW := Lib.hid (fun W (h : Later w W) => i_IsWritten v p W (hp.later h) (ho.later h) (by omega))
  have TG := Lib.hid (fun W (h : Later w W) => i_targets v p W (hp.later h) hl)
  have IX := Lib.hid (fun a n cap W h => i_IndexT a n cap (tgs p.lns) x W h)
  have HR := Lib.hid (ix_rng p x hl)
  have HV : Hid (lnV p x = if wrtB p = true then (if ixV (tgs p.lns) x < 0 then 0 else ixV (tgs p.lns) x) else 0) := Lib.hid rfl
  have HE : Hid (lnE p x = if wrtB p = true then (if ixV (tgs p.lns) x < 0 then 4 else 0) else 1) := Lib.hid rfl
  obtain ⟨a1, c1, a2, c2, a3, c3, a4, c4, rfl, h1, h2, h3, h4, h5, h6⟩ := hp
  have SH := Lib.hid (tgs_short h4)
  clear h1 h2 h3 h4 h5 h6 ho hl
  obtain ⟨X, hX⟩ : ∃ q, q = tx x := ⟨_, rfl⟩
  rw [← hX] at IX ⊢
  generalize lnV p x = V at HV ⊢
  generalize lnE p x = E at HE ⊢
  generalize wrtB p = b at IW HV HE
  generalize ixV (tgs p.lns) x = r at IX HR HV HE
  obtain ⟨s0, hs0⟩ : ∃ q, q = tx p.nm := ⟨_, rfl⟩
  obtain ⟨s4, hs4⟩ : ∃ q, q = tx p.grd := ⟨_, rfl⟩
  obtain ⟨n1, hn1⟩ : ∃ q, q = p.ins.length := ⟨_, rfl⟩
  obtain ⟨n2, hn2⟩ : ∃ q, q = p.vrs.length := ⟨_, rfl⟩
  obtain ⟨n3, hn3⟩ : ∃ q, q = p.outs.length := ⟨_, rfl⟩
  obtain ⟨n4, hn4⟩ : ∃ q, q = p.lns.length := ⟨_, rfl⟩
  simp only [← hs0, ← hs4, ← hn1, ← hn2, ← hn3, ← hn4] at IW TG ⊢
  generalize tgs p.lns = T at *
  clear hs0 hs4 hn1 hn2 hn3 hn4 hX
  have q0 : (w.alloc (.cells #[.string s0, .slice a1 n1 c1, .slice a2 n2 c2, .slice a3 n3 c3, .string s4, .slice a4 n4 c4] 27)).cell? ⟨w.heap.size, 0, none⟩ = some (.string s0) := by rw [cell_of_row _ _ 0 _ _ (0, 0) (heap_alloc_new w _)]; rfl
  have q1 : (w.alloc (.cells #[.string s0, .slice a1 n1 c1, .slice a2 n2 c2, .slice a3 n3 c3, .string s4, .slice a4 n4 c4] 27)).cell? ⟨w.heap.size, 1, none⟩ = some (.slice a1 n1 c1) := by rw [cell_of_row _ _ 1 _ _ (0, 0) (heap_alloc_new w _)]; rfl
  have q2 : (w.alloc (.cells #[.string s0, .slice a1 n1 c1, .slice a2 n2 c2, .slice a3 n3 c3, .string s4, .slice a4 n4 c4] 27)).cell? ⟨w.heap.size, 2, none⟩ = some (.slice a2 n2 c2) := by rw [cell_of_row _ _ 2 _ _ (0, 0) (heap_alloc_new w _)]; rfl
  have q3 : (w.alloc (.cells #[.string s0, .slice a1 n1 c1, .slice a2 n2 c2, .slice a3 n3 c3, .string s4, .slice a4 n4 c4] 27)).cell? ⟨w.heap.size, 3, none⟩ = some (.slice a3 n3 c3) := by rw [cell_of_row _ _ 3 _ _ (0, 0) (heap_alloc_new w _)]; rfl
  have q4 : (w.alloc (.cells #[.string s0, .slice a1 n1 c1, .slice a2 n2 c2, .slice a3 n3 c3, .string s4, .slice a4 n4 c4] 27)).cell? ⟨w.heap.size, 4, none⟩ = some (.string s4) := by rw [cell_of_row _ _ 4 _ _ (0, 0) (heap_alloc_new w _)]; rfl
  have q5 : (w.alloc (.cells #[.string s0, .slice a1 n1 c1, .slice a2 n2 c2, .slice a3 n3 c3, .string s4, .slice a4 n4 c4] 27)).cell? ⟨w.heap.size, 5, none⟩ = some (.slice a4 n4 c4) := by rw [cell_of_row _ _ 5 _ _ (0, 0) (heap_alloc_new w _)]; rfl
  have hW0 : w.heap.size < (w.alloc (.cells #[.string s0, .slice a1 n1 c1, .slice a2 n2 c2, .slice a3 n3 c3, .string s4, .slice a4 n4 c4] 27)).heap.size := by rw [World.size_alloc]; exact Nat.lt_succ_self _
  have C0 : Hid (∀ W', Later (w.alloc (.cells #[.string s0, .slice a1 n1 c1, .slice a2 n2 c2, .slice a3 n3 c3, .string s4, .slice a4 n4 c4] 27)) W' → W'.cell? ⟨w.heap.size, 0, none⟩ = some (.string s0) ∧ W'.cell? ⟨w.heap.size, 1, none⟩ = some (.slice a1 n1 c1) ∧ W'.cell? ⟨w.heap.size, 2, none⟩ = some (.slice a2 n2 c2) ∧ W'.cell? ⟨w.heap.size, 3, none⟩ = some (.slice a3 n3 c3) ∧ W'.cell? ⟨w.heap.size, 4, none⟩ = some (.string s4) ∧ W'.cell? ⟨w.heap.size, 5, none⟩ = some (.slice a4 n4 c4)) := Lib.hid (fun W' q => ⟨by rw [q.cell (p := ⟨w.heap.size, 0, none⟩) hW0]; exact q0, by rw [q.cell (p := ⟨w.heap.size, 1, none⟩) hW0]; exact q1, by rw [q.cell (p := ⟨w.heap.size, 2, none⟩) hW0]; exact q2, by rw [q.cell (p := ⟨w.heap.size, 3, none⟩) hW0]; exact q3, by rw [q.cell (p := ⟨w.heap.size, 4, none⟩) hW0]; exact q4, by rw [q.cell (p := ⟨w.heap.size, 5, none⟩) hW0]; exact q5⟩)
  have A0 : Hid (Later w (w.alloc (.cells #[.string s0, .slice a1 n1 c1, .slice a2 n2 c2, .slice a3 n3 c3, .string s4, .slice a4 n4 c4] 27))) := Lib.hid ((Later.refl _).alloc _)
  clear hW0
  cases b
  · have HV2 : V = 0 := HV.out
    have HE2 : E = 1 := HE.out
    subst HV2; subst HE2
    go_enter Tryd.func22, Tryd.ntmps22
    go_wp2_with fail
    generalize (w.alloc (.cells #[.string s0, .slice a1 n1 c1, .slice a2 n2 c2, .slice a3 n3 c3, .string s4, .slice a4 n4 c4] 27)) = W0 at C0 A0 q0 q1 q2 q3 q4 q5 ⊢
    refine (IW.out _ A0.out).mono ?_
    rintro e w1 ⟨rfl, hb⟩
    have B1 := Lib.hid (Later.trans A0.out hb)
    clear hb q0 q1 q2 q3 q4 q5
    go_wp2_with fail
    all_goals
      refine bodyPost_ret (v := .tuple #[.int .i64 0, .int .i64 1]) (by simp [results, Tryd.results22, go_sem, *]) rfl ⟨rfl, B1.out⟩
  · have HV2 : V = if r < 0 then 0 else r := HV.out
    have HE2 : E = if r < 0 then 4 else 0 := HE.out
    have hr := HR.out
    go_enter Tryd.func22, Tryd.ntmps22
    go_wp2_with fail
    generalize (w.alloc (.cells #[.string s0, .slice a1 n1 c1, .slice a2 n2 c2, .slice a3 n3 c3, .string s4, .slice a4 n4 c4] 27)) = W0 at C0 A0 q0 q1 q2 q3 q4 q5 ⊢
    refine (IW.out _ A0.out).mono ?_
    rintro e w1 ⟨rfl, hb⟩
    have B1 := Lib.hid (Later.trans A0.out hb)
    clear q0 q1 q2 q3 q4 q5
    obtain ⟨q0, q1, q2, q3, q4, q5⟩ := C0.out _ hb
    clear hb
    go_wp2_with fail
    refine (TG.out _ B1.out).mono ?_
    rintro e w2 ⟨u, rfl, ho, hb⟩
    have B2 := Lib.hid (Later.trans B1.out hb)
    obtain ⟨a, c, rfl, _, hs, _⟩ := ho.sts SH.out
    have IX2 := Lib.hid (IX.out a _ c w2 hs)
    clear ho hs hb q0 q1 q2 q3 q4 q5
    generalize T.length = n at IX2 ⊢
    go_wp2_with fail
    refine IX2.out.mono ?_
    rintro e w3 ⟨rfl, rfl⟩
    by_cases hc : r < 0
    · rw [if_pos hc] at HV2 HE2
      subst HV2; subst HE2
      go_wp2_with fail
      all_goals
        refine bodyPost_ret (v := .tuple #[.int .i64 0, .int .i64 4]) (by simp [results, Tryd.results22, go_sem, *]) rfl ⟨rfl, B2.out⟩
    · rw [if_neg hc] at HV2 HE2
      subst HE2
      obtain rfl : V = r := HV2
      go_wp2_with fail
      all_goals
        refine bodyPost_ret (v := .tuple #[.int .i64 V, .int .i64 0]) (by simp [results, Tryd.results22, go_sem, *]) rfl ⟨rfl, B2.out⟩
theorem s_Line (v : Value) (p : Prg) (x : List UInt8) (w : World) (hp : PgV w v p) (hl : p.lns.length ≤ 1048576) :
    Calls Tryd.prog 66 #[v, .string (tx x)] w fun e w' => e = .returned (.int .i64 (ixV (tgs p.lns) x)) ∧ Later w w' := by
  obtain ⟨a1, c1, a2, c2, a3, c3, a4, c4, rfl, h1, h2, h3, h4, h5, h6⟩ := hp
  have P4 := Lib.hid h4
  have TA : Hid (∀ j, j < p.lns.length → wx (tgs p.lns) j = ltx p.lns j) := Lib.hid (fun j h => tgs_at p.lns j h)
  have EQ := Lib.hid (fun y => eqx y x)
  have RH : Hid (∀ j, j < p.lns.length → wx (tgs p.lns) j = x → (∀ i, i < j → wx (tgs p.lns) i ≠ x) → ixV (tgs p.lns) x = (j : Int)) := Lib.hid (fun j h1 h2 h3 => ixV_hit (tgs p.lns) x j (by rw [tgs_len]; exact h1) h2 h3)
  have RM : Hid ((∀ i, i < p.lns.length → wx (tgs p.lns) i ≠ x) → ixV (tgs p.lns) x = -1) := Lib.hid (fun h => ixV_miss (tgs p.lns) x (by rw [tgs_len]; exact h))
  clear h1 h2 h3 h4 h5 h6
  obtain ⟨X, hX⟩ : ∃ q, q = tx x := ⟨_, rfl⟩
  rw [← hX] at EQ ⊢
  obtain ⟨s0, hs0⟩ : ∃ q, q = tx p.nm := ⟨_, rfl⟩
  obtain ⟨s4, hs4⟩ : ∃ q, q = tx p.grd := ⟨_, rfl⟩
  obtain ⟨n1, hn1⟩ : ∃ q, q = p.ins.length := ⟨_, rfl⟩
  obtain ⟨n2, hn2⟩ : ∃ q, q = p.vrs.length := ⟨_, rfl⟩
  obtain ⟨n3, hn3⟩ : ∃ q, q = p.outs.length := ⟨_, rfl⟩
  obtain ⟨n4, hn4⟩ : ∃ q, q = p.lns.length := ⟨_, rfl⟩
  simp only [← hs0, ← hs4, ← hn1, ← hn2, ← hn3, ← hn4] at P4 TA RH RM hl ⊢
  generalize ixV (tgs p.lns) x = r at RH RM ⊢
  generalize p.lns = M at *
  clear hs0 hs4 hn1 hn2 hn3 hn4 hX
  have q0 : (w.alloc (.cells #[.string s0, .slice a1 n1 c1, .slice a2 n2 c2, .slice a3 n3 c3, .string s4, .slice a4 n4 c4] 27)).cell? ⟨w.heap.size, 0, none⟩ = some (.string s0) := by rw [cell_of_row _ _ 0 _ _ (0, 0) (heap_alloc_new w _)]; rfl
  have q1 : (w.alloc (.cells #[.string s0, .slice a1 n1 c1, .slice a2 n2 c2, .slice a3 n3 c3, .string s4, .slice a4 n4 c4] 27)).cell? ⟨w.heap.size, 1, none⟩ = some (.slice a1 n1 c1) := by rw [cell_of_row _ _ 1 _ _ (0, 0) (heap_alloc_new w _)]; rfl
  have q2 : (w.alloc (.cells #[.string s0, .slice a1 n1 c1, .slice a2 n2 c2, .slice a3 n3 c3, .string s4, .slice a4 n4 c4] 27)).cell? ⟨w.heap.size, 2, none⟩ = some (.slice a2 n2 c2) := by rw [cell_of_row _ _ 2 _ _ (0, 0) (heap_alloc_new w _)]; rfl
  have q3 : (w.alloc (.cells #[.string s0, .slice a1 n1 c1, .slice a2 n2 c2, .slice a3 n3 c3, .string s4, .slice a4 n4 c4] 27)).cell? ⟨w.heap.size, 3, none⟩ = some (.slice a3 n3 c3) := by rw [cell_of_row _ _ 3 _ _ (0, 0) (heap_alloc_new w _)]; rfl
  have q4 : (w.alloc (.cells #[.string s0, .slice a1 n1 c1, .slice a2 n2 c2, .slice a3 n3 c3, .string s4, .slice a4 n4 c4] 27)).cell? ⟨w.heap.size, 4, none⟩ = some (.string s4) := by rw [cell_of_row _ _ 4 _ _ (0, 0) (heap_alloc_new w _)]; rfl
  have q5 : (w.alloc (.cells #[.string s0, .slice a1 n1 c1, .slice a2 n2 c2, .slice a3 n3 c3, .string s4, .slice a4 n4 c4] 27)).cell? ⟨w.heap.size, 5, none⟩ = some (.slice a4 n4 c4) := by rw [cell_of_row _ _ 5 _ _ (0, 0) (heap_alloc_new w _)]; rfl
  have hW0 : w.heap.size < (w.alloc (.cells #[.string s0, .slice a1 n1 c1, .slice a2 n2 c2, .slice a3 n3 c3, .string s4, .slice a4 n4 c4] 27)).heap.size := by rw [World.size_alloc]; exact Nat.lt_succ_self _
  have C0 : Hid (∀ W', Later (w.alloc (.cells #[.string s0, .slice a1 n1 c1, .slice a2 n2 c2, .slice a3 n3 c3, .string s4, .slice a4 n4 c4] 27)) W' → W'.cell? ⟨w.heap.size, 0, none⟩ = some (.string s0) ∧ W'.cell? ⟨w.heap.size, 1, none⟩ = some (.slice a1 n1 c1) ∧ W'.cell? ⟨w.heap.size, 2, none⟩ = some (.slice a2 n2 c2) ∧ W'.cell? ⟨w.heap.size, 3, none⟩ = some (.slice a3 n3 c3) ∧ W'.cell? ⟨w.heap.size, 4, none⟩ = some (.string s4) ∧ W'.cell? ⟨w.heap.size, 5, none⟩ = some (.slice a4 n4 c4)) := Lib.hid (fun W' q => ⟨by rw [q.cell (p := ⟨w.heap.size, 0, none⟩) hW0]; exact q0, by rw [q.cell (p := ⟨w.heap.size, 1, none⟩) hW0]; exact q1, by rw [q.cell (p := ⟨w.heap.size, 2, none⟩) hW0]; exact q2, by rw [q.cell (p := ⟨w.heap.size, 3, none⟩) hW0]; exact q3, by rw [q.cell (p := ⟨w.heap.size, 4, none⟩) hW0]; exact q4, by rw [q.cell (p := ⟨w.heap.size, 5, none⟩) hW0]; exact q5⟩)
  have A0 : Hid (Later w (w.alloc (.cells #[.string s0, .slice a1 n1 c1, .slice a2 n2 c2, .slice a3 n3 c3, .string s4, .slice a4 n4 c4] 27))) := Lib.hid ((Later.refl _).alloc _)
  clear hW0
  have P5 := Lib.hid (P4.out.later A0.out)
  clear C0 q0 q1 q2 q3 q4
  go_enter Tryd.func66, Tryd.ntmps66
  go_wp2_with fail
  generalize (w.alloc (.cells #[.string s0, .slice a1 n1 c1, .slice a2 n2 c2, .slice a3 n3 c3, .string s4, .slice a4 n4 c4] 27)) = W0 at A0 P5 q5 ⊢
  go_loop [5] (fun i => ∃ k : Nat, k ≤ n4 ∧ i = .int .i64 k ∧ Hid (∀ j, j < k → wx (tgs M) j ≠ x)) (fun i => n4 - (intOf i).toNat)
  case atStart => exact ⟨0, by omega, rfl, Lib.hid (by intro j h; omega)⟩
  case round =>
    obtain ⟨k, hk, rfl, HI⟩ := hrel
    by_cases hlt : k < n4
    · obtain ⟨b, off, ta, tc, rfl, c0, _, _⟩ := P5.out.2.2.1 k hlt
      have EK := EQ.out (ltx M k)
      have ET := TA.out k hlt
      have HR0 := Lib.hid (RH.out k hlt)
      have HIE : Hid (wx (tgs M) k = ltx M k) := Lib.hid ET
      clear ET
      obtain ⟨y, hy⟩ : ∃ y, y = tx (ltx M k) := ⟨_, rfl⟩
      rw [← hy] at c0 EK
      clear hy
      by_cases he : ltx M k = x
      · rw [decide_eq_true he] at EK
        have HR := Lib.hid (HR0.out (HIE.out.trans he) HI.out)
        clear he
        go_wp2_with fail
        all_goals
          go_ret
          exact ⟨by rw [HR.out]; rfl, A0.out⟩
      · rw [decide_eq_false he] at EK
        have HE := Lib.hid he
        clear he
        go_wp2_with fail
        go_roundw
        case rel =>
          refine ⟨k + 1, by omega, by go_num, Lib.hid ?_⟩
          intro q hq
          rcases Nat.lt_or_ge q k with h1 | h1
          · exact HI.out q h1
          · obtain rfl : q = k := by omega
            rw [HIE.out]; exact HE.out
        case measure => simp [intOf]; omega
    · obtain rfl : k = n4 := by omega
      have HR := Lib.hid (RM.out HI.out)
      go_wp2_with fail
      all_goals
        go_ret
        exact ⟨by rw [HR.out]; rfl, A0.out⟩
theorem s_LineOf (v : Value) (p : Prg) (x : List UInt8) (w : World) (hp : PgV w v p) (hl : p.lns.length ≤ 1048576) :
    Calls Tryd.prog 27 #[v, .string (tx x)] w fun e w' => e = .returned (.tuple #[.int .i64 (lnV p x), .int .i64 (lnE p x)]) ∧ Later w w' := by
  have IW := Lib.hid (fun W (h : Later w W) => s_IsWritten v p W (hp.later h) (by omega))
  have TG := Lib.hid (fun W (h : Later w W) => s_Line v p x W (hp.later h) hl)
  have HR := Lib.hid (ix_rng p x hl)
  have HV : Hid (lnV p x = if wrtB p = true then (if ixV (tgs p.lns) x < 0 then 0 else ixV (tgs p.lns) x) else 0) := Lib.hid rfl
  have HE : Hid (lnE p x = if wrtB p = true then (if ixV (tgs p.lns) x < 0 then 4 else 0) else 1) := Lib.hid rfl
  obtain ⟨a1, c1, a2, c2, a3, c3, a4, c4, rfl, h1, h2, h3, h4, h5, h6⟩ := hp
  clear h1 h2 h3 h4 h5 h6 hl
  obtain ⟨X, hX⟩ : ∃ q, q = tx x := ⟨_, rfl⟩
  rw [← hX] at TG ⊢
  generalize lnV p x = V at HV ⊢
  generalize lnE p x = E at HE ⊢
  generalize wrtB p = b at IW HV HE
  generalize ixV (tgs p.lns) x = r at TG HR HV HE
  obtain ⟨s0, hs0⟩ : ∃ q, q = tx p.nm := ⟨_, rfl⟩
  obtain ⟨s4, hs4⟩ : ∃ q, q = tx p.grd := ⟨_, rfl⟩
  obtain ⟨n1, hn1⟩ : ∃ q, q = p.ins.length := ⟨_, rfl⟩
  obtain ⟨n2, hn2⟩ : ∃ q, q = p.vrs.length := ⟨_, rfl⟩
  obtain ⟨n3, hn3⟩ : ∃ q, q = p.outs.length := ⟨_, rfl⟩
  obtain ⟨n4, hn4⟩ : ∃ q, q = p.lns.length := ⟨_, rfl⟩
  simp only [← hs0, ← hs4, ← hn1, ← hn2, ← hn3, ← hn4] at IW TG ⊢
  clear hs0 hs4 hn1 hn2 hn3 hn4 hX
  have q0 : (w.alloc (.cells #[.string s0, .slice a1 n1 c1, .slice a2 n2 c2, .slice a3 n3 c3, .string s4, .slice a4 n4 c4] 27)).cell? ⟨w.heap.size, 0, none⟩ = some (.string s0) := by rw [cell_of_row _ _ 0 _ _ (0, 0) (heap_alloc_new w _)]; rfl
  have q1 : (w.alloc (.cells #[.string s0, .slice a1 n1 c1, .slice a2 n2 c2, .slice a3 n3 c3, .string s4, .slice a4 n4 c4] 27)).cell? ⟨w.heap.size, 1, none⟩ = some (.slice a1 n1 c1) := by rw [cell_of_row _ _ 1 _ _ (0, 0) (heap_alloc_new w _)]; rfl
  have q2 : (w.alloc (.cells #[.string s0, .slice a1 n1 c1, .slice a2 n2 c2, .slice a3 n3 c3, .string s4, .slice a4 n4 c4] 27)).cell? ⟨w.heap.size, 2, none⟩ = some (.slice a2 n2 c2) := by rw [cell_of_row _ _ 2 _ _ (0, 0) (heap_alloc_new w _)]; rfl
  have q3 : (w.alloc (.cells #[.string s0, .slice a1 n1 c1, .slice a2 n2 c2, .slice a3 n3 c3, .string s4, .slice a4 n4 c4] 27)).cell? ⟨w.heap.size, 3, none⟩ = some (.slice a3 n3 c3) := by rw [cell_of_row _ _ 3 _ _ (0, 0) (heap_alloc_new w _)]; rfl
  have q4 : (w.alloc (.cells #[.string s0, .slice a1 n1 c1, .slice a2 n2 c2, .slice a3 n3 c3, .string s4, .slice a4 n4 c4] 27)).cell? ⟨w.heap.size, 4, none⟩ = some (.string s4) := by rw [cell_of_row _ _ 4 _ _ (0, 0) (heap_alloc_new w _)]; rfl
  have q5 : (w.alloc (.cells #[.string s0, .slice a1 n1 c1, .slice a2 n2 c2, .slice a3 n3 c3, .string s4, .slice a4 n4 c4] 27)).cell? ⟨w.heap.size, 5, none⟩ = some (.slice a4 n4 c4) := by rw [cell_of_row _ _ 5 _ _ (0, 0) (heap_alloc_new w _)]; rfl
  have hW0 : w.heap.size < (w.alloc (.cells #[.string s0, .slice a1 n1 c1, .slice a2 n2 c2, .slice a3 n3 c3, .string s4, .slice a4 n4 c4] 27)).heap.size := by rw [World.size_alloc]; exact Nat.lt_succ_self _
  have C0 : Hid (∀ W', Later (w.alloc (.cells #[.string s0, .slice a1 n1 c1, .slice a2 n2 c2, .slice a3 n3 c3, .string s4, .slice a4 n4 c4] 27)) W' → W'.cell? ⟨w.heap.size, 0, none⟩ = some (.string s0) ∧ W'.cell? ⟨w.heap.size, 1, none⟩ = some (.slice a1 n1 c1) ∧ W'.cell? ⟨w.heap.size, 2, none⟩ = some (.slice a2 n2 c2) ∧ W'.cell? ⟨w.heap.size, 3, none⟩ = some (.slice a3 n3 c3) ∧ W'.cell? ⟨w.heap.size, 4, none⟩ = some (.string s4) ∧ W'.cell? ⟨w.heap.size, 5, none⟩ = some (.slice a4 n4 c4)) := Lib.hid (fun W' q => ⟨by rw [q.cell (p := ⟨w.heap.size, 0, none⟩) hW0]; exact q0, by rw [q.cell (p := ⟨w.heap.size, 1, none⟩) hW0]; exact q1, by rw [q.cell (p := ⟨w.heap.size, 2, none⟩) hW0]; exact q2, by rw [q.cell (p := ⟨w.heap.size, 3, none⟩) hW0]; exact q3, by rw [q.cell (p := ⟨w.heap.size, 4, none⟩) hW0]; exact q4, by rw [q.cell (p := ⟨w.heap.size, 5, none⟩) hW0]; exact q5⟩)
  have A0 : Hid (Later w (w.alloc (.cells #[.string s0, .slice a1 n1 c1, .slice a2 n2 c2, .slice a3 n3 c3, .string s4, .slice a4 n4 c4] 27))) := Lib.hid ((Later.refl _).alloc _)
  clear hW0
  cases b
  · have HV2 : V = 0 := HV.out
    have HE2 : E = 1 := HE.out
    subst HV2; subst HE2
    go_enter Tryd.func27, Tryd.ntmps27
    go_wp2_with fail
    generalize (w.alloc (.cells #[.string s0, .slice a1 n1 c1, .slice a2 n2 c2, .slice a3 n3 c3, .string s4, .slice a4 n4 c4] 27)) = W0 at C0 A0 q0 q1 q2 q3 q4 q5 ⊢
    refine (IW.out _ A0.out).mono ?_
    rintro e w1 ⟨rfl, hb⟩
    have B1 := Lib.hid (Later.trans A0.out hb)
    clear hb q0 q1 q2 q3 q4 q5
    go_wp2_with fail
    all_goals
      refine bodyPost_ret (v := .tuple #[.int .i64 0, .int .i64 1]) (by simp [results, Tryd.results27, go_sem, *]) rfl ⟨rfl, B1.out⟩
  · have HV2 : V = if r < 0 then 0 else r := HV.out
    have HE2 : E = if r < 0 then 4 else 0 := HE.out
    have hr := HR.out
    go_enter Tryd.func27, Tryd.ntmps27
    go_wp2_with fail
    generalize (w.alloc (.cells #[.string s0, .slice a1 n1 c1, .slice a2 n2 c2, .slice a3 n3 c3, .string s4, .slice a4 n4 c4] 27)) = W0 at C0 A0 q0 q1 q2 q3 q4 q5 ⊢
    refine (IW.out _ A0.out).mono ?_
    rintro e w1 ⟨rfl, hb⟩
    have B1 := Lib.hid (Later.trans A0.out hb)
    clear q0 q1 q2 q3 q4 q5
    obtain ⟨q0, q1, q2, q3, q4, q5⟩ := C0.out _ hb
    clear hb
    go_wp2_with fail
    refine (TG.out _ B1.out).mono ?_
    rintro e w2 ⟨rfl, hb⟩
    have B2 := Lib.hid (Later.trans B1.out hb)
    clear hb q0 q1 q2 q3 q4 q5
    by_cases hc : r < 0
    · rw [if_pos hc] at HV2 HE2
      subst HV2; subst HE2
      go_wp2_with fail
      all_goals
        refine bodyPost_ret (v := .tuple #[.int .i64 0, .int .i64 4]) (by simp [results, Tryd.results27, go_sem, *]) rfl ⟨rfl, B2.out⟩
    · rw [if_neg hc] at HV2 HE2
      subst HE2
      obtain rfl : V = r := HV2
      go_wp2_with fail
      all_goals
        refine bodyPost_ret (v := .tuple #[.int .i64 V, .int .i64 0]) (by simp [results, Tryd.results27, go_sem, *]) rfl ⟨rfl, B2.out⟩
end Go.Proofs.YtokipobjpinhmaaDoor
namespace Go.Proofs.YtokipobjpinhmaaDoor
open Go.RowKit Go.Shelf
set_option maxHeartbeats 4000000
set_option maxRecDepth 100000
set_option linter.unusedVariables false
set_option linter.unusedSimpArgs false
/-- what is known of the sizes of a written program -/
def Wb (p : Prg) : Prop := 1 ≤ p.ins.length ∧ 1 ≤ p.outs.length ∧ p.ins.length ≤ 20 ∧ p.vrs.length ≤ 20 ∧ p.outs.length ≤ 20 ∧ p.lns.length ≤ 40 ∧ ∀ j, j < p.lns.length → exB (lrx p.lns j) = true
theorem wb_of (p : Prg) (h : wrtB p = true) : Wb p := by
  simp [wrtB, nmsB, lnsB] at h
  obtain ⟨⟨⟨⟨⟨⟨⟨_, _⟩, h1⟩, h2⟩, h3⟩, h4⟩, h5⟩, h6⟩ := h
  refine ⟨h1, h2, h3.2, h4.2, h5.2, h6.2, fun j hj => ?_⟩
  have := List.all_eq_true.1 h6.1.1 j (by simpa using hj)
  simp [lnOk] at this
  exact this.2
theorem Wb.len {p : Prg} (h : Wb p) (j : Nat) (hj : j < p.lns.length) : (lrx p.lns j).length ≤ 40 := (exB_parts _ (h.2.2.2.2.2.2 j hj)).1
theorem nmx_two (w : World) (T : TypeId) (b0 b1 n0 n1 c0 c1 : Nat) (W0 W1 : List (List UInt8)) (h0 : Sts w (some ⟨b0, 0, none⟩) n0 W0) (h1 : Sts w (some ⟨b1, 0, none⟩) n1 W1) : Nmx (w.alloc (.cells #[.slice (some ⟨b0, 0, none⟩) n0 c0, .slice (some ⟨b1, 0, none⟩) n1 c1] T)) (some ⟨w.heap.size, 0, none⟩) 2 [W0, W1] := by
  have hl : Later w (w.alloc (.cells #[.slice (some ⟨b0, 0, none⟩) n0 c0, .slice (some ⟨b1, 0, none⟩) n1 c1] T)) := (Later.refl _).alloc _
  refine ⟨rfl, fun j hj => ?_⟩
  match j, hj with
  | 0, _ => exact ⟨_, 0, b0, 0, n0, c0, rfl, by rw [cell_of_row _ _ 0 _ T (0, 0) (heap_alloc_new w _)]; rfl, h0.later hl⟩
  | 1, _ => exact ⟨_, 0, b1, 0, n1, c1, rfl, by rw [cell_of_row _ _ 1 _ T (0, 0) (heap_alloc_new w _)]; rfl, h1.later hl⟩
theorem nmx_three (w : World) (T : TypeId) (b0 b1 b2 n0 n1 n2 c0 c1 c2 : Nat) (W0 W1 W2 : List (List UInt8)) (h0 : Sts w (some ⟨b0, 0, none⟩) n0 W0) (h1 : Sts w (some ⟨b1, 0, none⟩) n1 W1) (h2 : Sts w (some ⟨b2, 0, none⟩) n2 W2) : Nmx (w.alloc (.cells #[.slice (some ⟨b0, 0, none⟩) n0 c0, .slice (some ⟨b1, 0, none⟩) n1 c1, .slice (some ⟨b2, 0, none⟩) n2 c2] T)) (some ⟨w.heap.size, 0, none⟩) 3 [W0, W1, W2] := by
  have hl : Later w (w.alloc (.cells #[.slice (some ⟨b0, 0, none⟩) n0 c0, .slice (some ⟨b1, 0, none⟩) n1 c1, .slice (some ⟨b2, 0, none⟩) n2 c2] T)) := (Later.refl _).alloc _
  refine ⟨rfl, fun j hj => ?_⟩
  match j, hj with
  | 0, _ => exact ⟨_, 0, b0, 0, n0, c0, rfl, by rw [cell_of_row _ _ 0 _ T (0, 0) (heap_alloc_new w _)]; rfl, h0.later hl⟩
  | 1, _ => exact ⟨_, 0, b1, 0, n1, c1, rfl, by rw [cell_of_row _ _ 1 _ T (0, 0) (heap_alloc_new w _)]; rfl, h1.later hl⟩
  | 2, _ => exact ⟨_, 0, b2, 0, n2, c2, rfl, by rw [cell_of_row _ _ 2 _ T (0, 0) (heap_alloc_new w _)]; rfl, h2.later hl⟩
theorem concat2 (b0 b1 n0 n1 c0 c1 : Nat) (W0 W1 : List (List UInt8)) (w W : World) (h : Nat) (T : TypeId) (hl : Later w W) (hh : W.heap.size = h) (h0 : Sts w (some ⟨b0, 0, none⟩) n0 W0) (h1 : Sts w (some ⟨b1, 0, none⟩) n1 W1) (z0 : n0 ≤ 1000) (z1 : n1 ≤ 1000) (hz : 0 < n0 + n1) :
    Calls Tryd.prog 70 #[.slice (some ⟨h, 0, none⟩) 2 2] (W.alloc (.cells #[.slice (some ⟨b0, 0, none⟩) n0 c0, .slice (some ⟨b1, 0, none⟩) n1 c1] T)) (RetTs W (W0 ++ W1)) := by
  subst hh
  have e0 := h0.1; have e1 := h1.1
  refine (i_ConcatN _ 2 2 [W0, W1] _ (nmx_two W T b0 b1 n0 n1 c0 c1 W0 W1 (h0.later hl) (h1.later hl)) (by omega) (take_le2 W0 W1 10000 (by omega)) (by simp; omega)).mono ?_
  rintro e w' ⟨u, rfl, ho, hb⟩
  have ef : [W0, W1].flatten = W0 ++ W1 := by simp
  rw [ef] at ho
  exact ⟨u, rfl, ownT_monoN ho (Later.size ((Later.refl W).alloc _)), Later.trans ((Later.refl _).alloc _) hb⟩
theorem concat3 (b0 b1 b2 n0 n1 n2 c0 c1 c2 : Nat) (W0 W1 W2 : List (List UInt8)) (w W : World) (h : Nat) (T : TypeId) (hl : Later w W) (hh : W.heap.size = h) (h0 : Sts w (some ⟨b0, 0, none⟩) n0 W0) (h1 : Sts w (some ⟨b1, 0, none⟩) n1 W1) (h2 : Sts w (some ⟨b2, 0, none⟩) n2 W2) (z0 : n0 ≤ 1000) (z1 : n1 ≤ 1000) (z2 : n2 ≤ 1000) (hz : 0 < n0 + n1 + n2) :
    Calls Tryd.prog 70 #[.slice (some ⟨h, 0, none⟩) 3 3] (W.alloc (.cells #[.slice (some ⟨b0, 0, none⟩) n0 c0, .slice (some ⟨b1, 0, none⟩) n1 c1, .slice (some ⟨b2, 0, none⟩) n2 c2] T)) (RetTs W (W0 ++ W1 ++ W2)) := by
  subst hh
  have e0 := h0.1; have e1 := h1.1; have e2 := h2.1
  refine (i_ConcatN _ 3 3 [W0, W1, W2] _ (nmx_three W T b0 b1 b2 n0 n1 n2 c0 c1 c2 W0 W1 W2 (h0.later hl) (h1.later hl) (h2.later hl)) (by omega) (take_le3 W0 W1 W2 10000 (by omega)) (by simp; omega)).mono ?_
  rintro e w' ⟨u, rfl, ho, hb⟩
  have ef : [W0, W1, W2].flatten = W0 ++ W1 ++ W2 := by simp
  rw [ef] at ho
  exact ⟨u, rfl, ownT_monoN ho (Later.size ((Later.refl W).alloc _)), Later.trans ((Later.refl _).alloc _) hb⟩
theorem RetTs.lift {w W : World} {S : List (List UInt8)} {e : Ending} {w' : World} (h : RetTs W S e w') (hl : Later w W) : RetTs w S e w' := by
  obtain ⟨u, rfl, ho, hb⟩ := h
  exact ⟨u, rfl, ownT_monoN ho hl.size, hl.trans hb⟩
theorem nameSet2a (a0 a1 : Option Addr) (n0 n1 c0 c1 : Nat) (W0 W1 : List (List UInt8)) (w W : World) (h : Nat) (T : TypeId) (hl : Later w W) (hh : W.heap.size = h) (h0 : Sts w a0 n0 W0) (h1 : Sts w a1 n1 W1) (z0 : n0 ≤ 1048576) (z1 : n1 ≤ 1048576) :
    Calls Tryd.prog 76 #[.slice (some ⟨h, 0, none⟩) 2 2] (W.alloc (.cells #[.slice a0 n0 c0, .slice a1 n1 c1] T)) (RetN W (W0 ++ W1)) := by
  subst hh
  exact nameSet2 a0 a1 n0 n1 c0 c1 W0 W1 T W (h0.later hl) (h1.later hl) z0 z1
theorem RetN.lift {w W : World} {S : List (List UInt8)} {e : Ending} {w' : World} (h : RetN W S e w') (hl : Later w W) : RetN w S e w' := by
  obtain ⟨u, rfl, ho, hb⟩ := h
  exact ⟨u, rfl, ho, hl.trans hb⟩
theorem i_declared (base : Nat) (v : Value) (p : Prg) (w : World) (hp : PgC base w v p) (hb : Wb p) : Calls Tryd.prog 77 #[v] w (RetTs w (p.ins ++ p.vrs ++ p.outs)) := by
  obtain ⟨g1, g2, g3, g4, rfl, _, ⟨h1, _⟩, ⟨h2, _⟩, ⟨h3, _⟩, _, _, _⟩ := hp
  obtain ⟨b1, b2, b3, b4, b5, _, _⟩ := hb
  have HC := Lib.hid (fun W h T hl hh => concat3 g1 g2 g3 p.ins.length p.vrs.length p.outs.length p.ins.length p.vrs.length p.outs.length p.ins p.vrs p.outs w W h T hl hh h1 h2 h3 (by omega) (by omega) (by omega) (by omega))
  obtain ⟨s0, hs0⟩ : ∃ q, q = tx p.nm := ⟨_, rfl⟩
  obtain ⟨s4, hs4⟩ : ∃ q, q = tx p.grd := ⟨_, rfl⟩
  obtain ⟨n1, hn1⟩ : ∃ q, q = p.ins.length := ⟨_, rfl⟩
  obtain ⟨n2, hn2⟩ : ∃ q, q = p.vrs.length := ⟨_, rfl⟩
  obtain ⟨n3, hn3⟩ : ∃ q, q = p.outs.length := ⟨_, rfl⟩
  obtain ⟨n4, hn4⟩ : ∃ q, q = p.lns.length := ⟨_, rfl⟩
  simp only [← hs0, ← hs4, ← hn1, ← hn2, ← hn3, ← hn4] at h1 h2 h3 b1 b2 b3 b4 b5 HC ⊢
  clear hs0 hs4 hn1 hn2 hn3 hn4
  have q1 : (w.alloc (.cells #[.string s0, .slice (some ⟨g1, 0, none⟩) n1 n1, .slice (some ⟨g2, 0, none⟩) n2 n2, .slice (some ⟨g3, 0, none⟩) n3 n3, .string s4, .slice (some ⟨g4, 0, none⟩) n4 n4] 27)).cell? ⟨w.heap.size, 1, none⟩ = some (.slice (some ⟨g1, 0, none⟩) n1 n1) := by rw [cell_of_row _ _ 1 _ _ (0, 0) (heap_alloc_new w _)]; rfl
  have q2 : (w.alloc (.cells #[.string s0, .slice (some ⟨g1, 0, none⟩) n1 n1, .slice (some ⟨g2, 0, none⟩) n2 n2, .slice (some ⟨g3, 0, none⟩) n3 n3, .string s4, .slice (some ⟨g4, 0, none⟩) n4 n4] 27)).cell? ⟨w.heap.size, 2, none⟩ = some (.slice (some ⟨g2, 0, none⟩) n2 n2) := by rw [cell_of_row _ _ 2 _ _ (0, 0) (heap_alloc_new w _)]; rfl
  have q3 : (w.alloc (.cells #[.string s0, .slice (some ⟨g1, 0, none⟩) n1 n1, .slice (some ⟨g2, 0, none⟩) n2 n2, .slice (some ⟨g3, 0, none⟩) n3 n3, .string s4, .slice (some ⟨g4, 0, none⟩) n4 n4] 27)).cell? ⟨w.heap.size, 3, none⟩ = some (.slice (some ⟨g3, 0, none⟩) n3 n3) := by rw [cell_of_row _ _ 3 _ _ (0, 0) (heap_alloc_new w _)]; rfl
  have A0 : Hid (Later w (w.alloc (.cells #[.string s0, .slice (some ⟨g1, 0, none⟩) n1 n1, .slice (some ⟨g2, 0, none⟩) n2 n2, .slice (some ⟨g3, 0, none⟩) n3 n3, .string s4, .slice (some ⟨g4, 0, none⟩) n4 n4] 27))) := Lib.hid ((Later.refl _).alloc _)
  clear h1 h2 h3 b1 b2 b3 b4 b5
  go_enter Tryd.func77, Tryd.ntmps77
  go_wp2_with (go_at_call 70; refine (HC.out _ _ _ A0.out (by first | rfl | exact World.size_alloc _ _)).mono ?_; rintro e w1 ⟨u, rfl, ho, hb⟩; have O1 := Lib.hid ho; have B1 := Lib.hid hb; clear ho hb)
  go_ret
  exact RetTs.lift ⟨u, rfl, O1.out, B1.out⟩ A0.out
theorem i_assignable (base : Nat) (v : Value) (p : Prg) (w : World) (hp : PgC base w v p) (hb : Wb p) : Calls Tryd.prog 119 #[v] w (RetTs w (p.vrs ++ p.outs)) := by
  obtain ⟨g1, g2, g3, g4, rfl, _, ⟨h1, _⟩, ⟨h2, _⟩, ⟨h3, _⟩, _, _, _⟩ := hp
  obtain ⟨b1, b2, b3, b4, b5, _, _⟩ := hb
  have HC := Lib.hid (fun W h T hl hh => concat2 g2 g3 p.vrs.length p.outs.length p.vrs.length p.outs.length p.vrs p.outs w W h T hl hh h2 h3 (by omega) (by omega) (by omega))
  obtain ⟨s0, hs0⟩ : ∃ q, q = tx p.nm := ⟨_, rfl⟩
  obtain ⟨s4, hs4⟩ : ∃ q, q = tx p.grd := ⟨_, rfl⟩
  obtain ⟨n1, hn1⟩ : ∃ q, q = p.ins.length := ⟨_, rfl⟩
  obtain ⟨n2, hn2⟩ : ∃ q, q = p.vrs.length := ⟨_, rfl⟩
  obtain ⟨n3, hn3⟩ : ∃ q, q = p.outs.length := ⟨_, rfl⟩
  obtain ⟨n4, hn4⟩ : ∃ q, q = p.lns.length := ⟨_, rfl⟩
  simp only [← hs0, ← hs4, ← hn1, ← hn2, ← hn3, ← hn4] at h1 h2 h3 b1 b2 b3 b4 b5 HC ⊢
  clear hs0 hs4 hn1 hn2 hn3 hn4
  have q2 : (w.alloc (.cells #[.string s0, .slice (some ⟨g1, 0, none⟩) n1 n1, .slice (some ⟨g2, 0, none⟩) n2 n2, .slice (some ⟨g3, 0, none⟩) n3 n3, .string s4, .slice (some ⟨g4, 0, none⟩) n4 n4] 27)).cell? ⟨w.heap.size, 2, none⟩ = some (.slice (some ⟨g2, 0, none⟩) n2 n2) := by rw [cell_of_row _ _ 2 _ _ (0, 0) (heap_alloc_new w _)]; rfl
  have q3 : (w.alloc (.cells #[.string s0, .slice (some ⟨g1, 0, none⟩) n1 n1, .slice (some ⟨g2, 0, none⟩) n2 n2, .slice (some ⟨g3, 0, none⟩) n3 n3, .string s4, .slice (some ⟨g4, 0, none⟩) n4 n4] 27)).cell? ⟨w.heap.size, 3, none⟩ = some (.slice (some ⟨g3, 0, none⟩) n3 n3) := by rw [cell_of_row _ _ 3 _ _ (0, 0) (heap_alloc_new w _)]; rfl
  have A0 : Hid (Later w (w.alloc (.cells #[.string s0, .slice (some ⟨g1, 0, none⟩) n1 n1, .slice (some ⟨g2, 0, none⟩) n2 n2, .slice (some ⟨g3, 0, none⟩) n3 n3, .string s4, .slice (some ⟨g4, 0, none⟩) n4 n4] 27))) := Lib.hid ((Later.refl _).alloc _)
  clear h1 h2 h3 b1 b2 b3 b4 b5
  go_enter Tryd.func119, Tryd.ntmps119
  go_wp2_with (go_at_call 70; refine (HC.out _ _ _ A0.out (by first | rfl | exact World.size_alloc _ _)).mono ?_; rintro e w1 ⟨u, rfl, ho, hb⟩; have O1 := Lib.hid ho; have B1 := Lib.hid hb; clear ho hb)
  go_ret
  exact RetTs.lift ⟨u, rfl, O1.out, B1.out⟩ A0.out
theorem i_readable (base : Nat) (v : Value) (p : Prg) (w : World) (hp : PgC base w v p) (hb : Wb p) : Calls Tryd.prog 118 #[v] w (RetN w (p.ins ++ p.vrs)) := by
  obtain ⟨g1, g2, g3, g4, rfl, _, ⟨h1, _⟩, ⟨h2, _⟩, ⟨h3, _⟩, _, _, _⟩ := hp
  obtain ⟨b1, b2, b3, b4, b5, _, _⟩ := hb
  have HC := Lib.hid (fun W h T hl hh => nameSet2a (some ⟨g1, 0, none⟩) (some ⟨g2, 0, none⟩) p.ins.length p.vrs.length p.ins.length p.vrs.length p.ins p.vrs w W h T hl hh h1 h2 (by omega) (by omega))
  obtain ⟨s0, hs0⟩ : ∃ q, q = tx p.nm := ⟨_, rfl⟩
  obtain ⟨s4, hs4⟩ : ∃ q, q = tx p.grd := ⟨_, rfl⟩
  obtain ⟨n1, hn1⟩ : ∃ q, q = p.ins.length := ⟨_, rfl⟩
  obtain ⟨n2, hn2⟩ : ∃ q, q = p.vrs.length := ⟨_, rfl⟩
  obtain ⟨n3, hn3⟩ : ∃ q, q = p.outs.length := ⟨_, rfl⟩
  obtain ⟨n4, hn4⟩ : ∃ q, q = p.lns.length := ⟨_, rfl⟩
  simp only [← hs0, ← hs4, ← hn1, ← hn2, ← hn3, ← hn4] at h1 h2 h3 b1 b2 b3 b4 b5 HC ⊢
  clear hs0 hs4 hn1 hn2 hn3 hn4
  have q1 : (w.alloc (.cells #[.string s0, .slice (some ⟨g1, 0, none⟩) n1 n1, .slice (some ⟨g2, 0, none⟩) n2 n2, .slice (some ⟨g3, 0, none⟩) n3 n3, .string s4, .slice (some ⟨g4, 0, none⟩) n4 n4] 27)).cell? ⟨w.heap.size, 1, none⟩ = some (.slice (some ⟨g1, 0, none⟩) n1 n1) := by rw [cell_of_row _ _ 1 _ _ (0, 0) (heap_alloc_new w _)]; rfl
  have q2 : (w.alloc (.cells #[.string s0, .slice (some ⟨g1, 0, none⟩) n1 n1, .slice (some ⟨g2, 0, none⟩) n2 n2, .slice (some ⟨g3, 0, none⟩) n3 n3, .string s4, .slice (some ⟨g4, 0, none⟩) n4 n4] 27)).cell? ⟨w.heap.size, 2, none⟩ = some (.slice (some ⟨g2, 0, none⟩) n2 n2) := by rw [cell_of_row _ _ 2 _ _ (0, 0) (heap_alloc_new w _)]; rfl
  have A0 : Hid (Later w (w.alloc (.cells #[.string s0, .slice (some ⟨g1, 0, none⟩) n1 n1, .slice (some ⟨g2, 0, none⟩) n2 n2, .slice (some ⟨g3, 0, none⟩) n3 n3, .string s4, .slice (some ⟨g4, 0, none⟩) n4 n4] 27))) := Lib.hid ((Later.refl _).alloc _)
  clear h1 h2 h3 b1 b2 b3 b4 b5
  go_enter Tryd.func118, Tryd.ntmps118
  go_wp2_with (go_at_call 76; refine (HC.out _ _ _ A0.out (by first | rfl | exact World.size_alloc _ _)).mono ?_; rintro e w1 ⟨u, rfl, ho, hb⟩; have O1 := Lib.hid ho; have B1 := Lib.hid hb; clear ho hb)
  go_ret
  exact RetN.lift ⟨u, rfl, O1.out, B1.out⟩ A0.out
theorem nmV_take (M : List Lne) (k : Nat) (h : k < M.length) : nmV (M.take (k + 1)) = nmV (M.take k) ++ nmT (lrx M k) := by
  rw [List.take_succ_eq_append_getElem h, lx_at M k h]
  simp [nmV]
theorem nmT_take (L : List Trm) (j : Nat) (h : j < L.length) : nmT (L.take (j + 1)) = if rkx L j = 1 then nmT (L.take j) ++ [rsx L j] else nmT (L.take j) := by
  rw [List.take_succ_eq_append_getElem h, rk_at L j h]
  unfold nmT
  rw [List.filter_append, List.map_append]
  by_cases e : rkx L j = 1 <;> simp [e]
theorem nmT_len (L : List Trm) : (nmT L).length ≤ L.length := by
  unfold nmT; rw [List.length_map]; exact List.length_filter_le _ _
theorem nmV_len (M : List Lne) (h : ∀ j, j < M.length → (lrx M j).length ≤ 40) : ∀ k, k ≤ M.length → (nmV (M.take k)).length ≤ 40 * k
  | 0, _ => by simp [nmV]
  | k + 1, hk => by
    rw [nmV_take M k hk, List.length_append]
    have := nmV_len M h k (by omega)
    have h1 := nmT_len (lrx M k)
    have h2 := h k hk
    omega
theorem i_used (v : Value) (p : Prg) (w : World) (hp : PgV w v p) (hb : Wb p) : Calls Tryd.prog 121 #[v] w (RetTs w (nmV p.lns)) := by
  obtain ⟨a1, c1, a2, c2, a3, c3, a4, c4, rfl, h1, h2, h3, h4, h5, h6⟩ := hp
  have P4 := Lib.hid h4
  have HK := Lib.hid (fun k h => nmV_take p.lns k h)
  have HF : Hid (nmV (p.lns.take p.lns.length) = nmV p.lns) := Lib.hid (by rw [List.take_length])
  have HZ : Hid (∀ k, k ≤ p.lns.length → (nmV (p.lns.take k)).length ≤ 40 * k) := Lib.hid (nmV_len p.lns (fun j h => hb.len j h))
  have HB := Lib.hid (fun j h => hb.len j h)
  have hl : p.lns.length ≤ 40 := hb.2.2.2.2.2.1
  clear h1 h2 h3 h4 h5 h6 hb
  obtain ⟨s0, hs0⟩ : ∃ q, q = tx p.nm := ⟨_, rfl⟩
  obtain ⟨s4, hs4⟩ : ∃ q, q = tx p.grd := ⟨_, rfl⟩
  obtain ⟨n1, hn1⟩ : ∃ q, q = p.ins.length := ⟨_, rfl⟩
  obtain ⟨n2, hn2⟩ : ∃ q, q = p.vrs.length := ⟨_, rfl⟩
  obtain ⟨n3, hn3⟩ : ∃ q, q = p.outs.length := ⟨_, rfl⟩
  obtain ⟨n4, hn4⟩ : ∃ q, q = p.lns.length := ⟨_, rfl⟩
  simp only [← hs0, ← hs4, ← hn1, ← hn2, ← hn3, ← hn4] at P4 HK HF HZ HB hl ⊢
  generalize p.lns = M at *
  clear hs0 hs4 hn1 hn2 hn3 hn4
  have q5 : (w.alloc (.cells #[.string s0, .slice a1 n1 c1, .slice a2 n2 c2, .slice a3 n3 c3, .string s4, .slice a4 n4 c4] 27)).cell? ⟨w.heap.size, 5, none⟩ = some (.slice a4 n4 c4) := by rw [cell_of_row _ _ 5 _ _ (0, 0) (heap_alloc_new w _)]; rfl
  have A0 : Hid (Later w (w.alloc (.cells #[.string s0, .slice a1 n1 c1, .slice a2 n2 c2, .slice a3 n3 c3, .string s4, .slice a4 n4 c4] 27))) := Lib.hid ((Later.refl _).alloc _)
  go_enter Tryd.func121, Tryd.ntmps121
  go_wp2_with fail
  generalize (w.alloc (.cells #[.string s0, .slice a1 n1 c1, .slice a2 n2 c2, .slice a3 n3 c3, .string s4, .slice a4 n4 c4] 27)) = W0 at A0 q5 ⊢
  go_loopw [3, 11] (fun s i wr => ∃ k : Nat, k ≤ n4 ∧ i = .int .i64 k ∧ OwnT wr w.heap.size s (nmV (M.take k)) ∧ Later w wr) (fun _ i _ => n4 - (intOf i).toNat)
  case atStart => exact ⟨0, by omega, rfl, ⟨rfl, .inl ⟨rfl, rfl⟩⟩, A0.out⟩
  case round =>
    clear q5
    obtain ⟨k, hk, rfl, ho, hb⟩ := hrel
    have B3 := Lib.hid hb
    have O3 := Lib.hid ho
    clear ho
    by_cases hlt : k < n4
    · obtain ⟨b, off, ta, tc, rfl, c00, c01, c2⟩ := P4.out.2.2.1 k hlt
      have c0 : wr.cell? ⟨b, off + k * 2, none⟩ = some (.string (tx (ltx M k))) := by rw [hb.cell (p := ⟨b, off + k * 2, none⟩) (cell_lt c00)]; exact c00
      have c1 : wr.cell? ⟨b, off + k * 2 + 1, none⟩ = some (.slice ta (lrx M k).length tc) := by rw [hb.cell (p := ⟨b, off + k * 2 + 1, none⟩) (cell_lt c01)]; exact c01
      have HE := Lib.hid (HK.out k hlt)
      have hz := HZ.out k hk
      have h40 := HB.out k hlt
      have HS := Lib.hid c2
      generalize ltx M k = yy at c0
      obtain ⟨Y, hY⟩ : ∃ Y, Y = tx yy := ⟨_, rfl⟩
      rw [← hY] at c0
      generalize lrx M k = L at *
      have HJ := Lib.hid (fun j h => nmT_take L j h)
      have HLF : Hid (nmT (L.take L.length) = nmT L) := Lib.hid (by rw [List.take_length])
      have HQ := Lib.hid (fun j => nmT_len (L.take j))
      generalize nmV (M.take k) = T0 at O3 HE hz
      obtain ⟨q, hq⟩ : ∃ q, q = L.length := ⟨_, rfl⟩
      rw [← hq] at c1 h40 HS HJ HLF
      clear c00 c01 c2 hb hY hq
      go_wp2_with fail
      go_loopw [3, 18] (fun s i w5 => ∃ j : Nat, j ≤ q ∧ i = .int .i64 j ∧ OwnT w5 w.heap.size s (T0 ++ nmT (L.take j)) ∧ Later w w5) (fun _ i _ => q - (intOf i).toNat)
      case atStart => exact ⟨0, by omega, rfl, by simpa [nmT] using O3.out.later (by repeat (first | (with_reducible exact Later.refl _) | (with_reducible exact Hid.out (by assumption)) | (with_reducible refine Later.alloc ?_ _) | (with_reducible refine Later.setCell ?_ (by simp; omega) _) | (with_reducible refine Later.setCell ?_ (by simp) _) | (with_reducible refine Later.drewN ?_ _) | (with_reducible refine Later.drew ?_) | (with_reducible refine Later.trans ?_ (Hid.out (by assumption))))), Later.trans B3.out (by repeat (first | (with_reducible exact Later.refl _) | (with_reducible exact Hid.out (by assumption)) | (with_reducible refine Later.alloc ?_ _) | (with_reducible refine Later.setCell ?_ (by simp; omega) _) | (with_reducible refine Later.setCell ?_ (by simp) _) | (with_reducible refine Later.drewN ?_ _) | (with_reducible refine Later.drew ?_) | (with_reducible refine Later.trans ?_ (Hid.out (by assumption)))))⟩
      case round =>
        clear c0 c1
        obtain ⟨j, hj, rfl, ho, hb⟩ := hrel
        have B5 := Lib.hid hb
        have O5 := Lib.hid ho
        clear ho
        by_cases hlt2 : j < q
        · obtain ⟨b2, off2, rfl, d0, d1, d2⟩ := (HS.out.later hb).2.2.1 j hlt2
          have HJ2 := Lib.hid (HJ.out j hlt2)
          have hqq : (T0 ++ nmT (L.take j)).length ≤ 100000 := by have := HQ.out j; rw [List.length_append]; simp at this; omega
          have HQQ := Lib.hid hqq
          obtain ⟨y, hy⟩ : ∃ y, y = rsx L j := ⟨_, rfl⟩
          rw [← hy] at d1 HJ2
          obtain ⟨X, hX⟩ : ∃ X, X = tx y := ⟨_, rfl⟩
          rw [← hX] at d1
          have HX := Lib.hid hX
          generalize rkx L j = kd at d0 HJ2
          generalize rnx L j = nb at d2
          generalize nmT (L.take j) = T1 at *
          clear hy hX hb hqq
          by_cases he : kd = 1
          · subst he
            have HJ3 := HJ2.out
            rw [if_pos rfl] at HJ3
            have HE3 := Lib.hid HJ3
            clear HJ3
            go_wp2_with (at_builtin; go_must (rw [HX.out]; refine app1T rfl _ _ rfl w.heap.size _ _ _ (T0 ++ T1) y (O5.out.later (by repeat (first | (with_reducible exact Later.refl _) | (with_reducible exact Hid.out (by assumption)) | (with_reducible refine Later.alloc ?_ _) | (with_reducible refine Later.setCell ?_ (by simp; omega) _) | (with_reducible refine Later.setCell ?_ (by simp) _) | (with_reducible refine Later.drewN ?_ _) | (with_reducible refine Later.drew ?_) | (with_reducible refine Later.trans ?_ (Hid.out (by assumption)))))) rfl (by first | rfl | (simp only [World.heap_drewN, World.size_alloc]; rfl)) (by have := HQQ.out; omega) (Later.size (by repeat (first | (with_reducible exact Later.refl _) | (with_reducible exact Hid.out (by assumption)) | (with_reducible refine Later.alloc ?_ _) | (with_reducible refine Later.setCell ?_ (by simp; omega) _) | (with_reducible refine Later.setCell ?_ (by simp) _) | (with_reducible refine Later.drewN ?_ _) | (with_reducible refine Later.drew ?_) | (with_reducible refine Later.trans ?_ (Hid.out (by assumption)))))) ?_; intro v6 w6 ho hgr))
            have O6 := Lib.hid ho
            rw [List.append_assoc, ← HE3.out] at O6
            have B6 : Hid (Later w w6) := Lib.hid (Below.grown (show Later w _ from (by repeat (first | (with_reducible exact Later.refl _) | (with_reducible exact Hid.out (by assumption)) | (with_reducible refine Later.alloc ?_ _) | (with_reducible refine Later.setCell ?_ (by simp; omega) _) | (with_reducible refine Later.setCell ?_ (by simp) _) | (with_reducible refine Later.drewN ?_ _) | (with_reducible refine Later.drew ?_) | (with_reducible refine Later.trans ?_ (Hid.out (by assumption)))))) hgr (Later.size (by repeat (first | (with_reducible exact Later.refl _) | (with_reducible exact Hid.out (by assumption)) | (with_reducible refine Later.alloc ?_ _) | (with_reducible refine Later.setCell ?_ (by simp; omega) _) | (with_reducible refine Later.setCell ?_ (by simp) _) | (with_reducible refine Later.drewN ?_ _) | (with_reducible refine Later.drew ?_) | (with_reducible refine Later.trans ?_ (Hid.out (by assumption)))))) (fun j hj => (O5.out.lt j hj).1))
            clear ho hgr
            go_roundw
            case rel => exact ⟨j + 1, by omega, by go_num, O6.out, B6.out⟩
            case measure => simp [intOf]; omega
          · have HJ3 := HJ2.out
            rw [if_neg he] at HJ3
            have HE3 := Lib.hid HJ3
            have hne : (kd == 1) = false := by simpa using he
            clear HJ3 he
            go_wp2_with fail
            go_roundw
            case rel => exact ⟨j + 1, by omega, by go_num, by rw [HE3.out]; exact O5.out.later (by repeat (first | (with_reducible exact Later.refl _) | (with_reducible exact Hid.out (by assumption)) | (with_reducible refine Later.alloc ?_ _) | (with_reducible refine Later.setCell ?_ (by simp; omega) _) | (with_reducible refine Later.setCell ?_ (by simp) _) | (with_reducible refine Later.drewN ?_ _) | (with_reducible refine Later.drew ?_) | (with_reducible refine Later.trans ?_ (Hid.out (by assumption))))), (by repeat (first | (with_reducible exact Later.refl _) | (with_reducible exact Hid.out (by assumption)) | (with_reducible refine Later.alloc ?_ _) | (with_reducible refine Later.setCell ?_ (by simp; omega) _) | (with_reducible refine Later.setCell ?_ (by simp) _) | (with_reducible refine Later.drewN ?_ _) | (with_reducible refine Later.drew ?_) | (with_reducible refine Later.trans ?_ (Hid.out (by assumption)))))⟩
            case measure => simp [intOf]; omega
        · obtain rfl : j = q := by omega
          have O7 : Hid (OwnT wr w.heap.size _ (T0 ++ nmT L)) := Lib.hid (by have h := O5.out; rw [HLF.out] at h; exact h)
          rw [← HE.out] at O7
          clear hb
          go_wp2_with fail
          go_roundw
          case rel => exact ⟨k + 1, by omega, by go_num, O7.out, B5.out⟩
          case measure => simp [intOf]; omega
    · obtain rfl : k = n4 := by omega
      clear hb
      go_wp2_with fail
      go_ret
      exact ⟨_, rfl, by rw [← HF.out]; exact O3.out, B3.out⟩
end Go.Proofs.YtokipobjpinhmaaDoor
namespace Go.Proofs.YtokipobjpinhmaaDoor
open Go.RowKit Go.Shelf
set_option maxHeartbeats 4000000
set_option maxRecDepth 100000
set_option linter.unusedVariables false
set_option linter.unusedSimpArgs false
/-- term j is the name x -/
def eqT (L : List Trm) (x : List UInt8) (j : Nat) : Bool := decide (rkx L j = 1) && (decide (rsx L j = x) && decide (rnx L j = 0))
def ctV (L : List Trm) (x : List UInt8) : Bool := (List.range L.length).any (eqT L x)
theorem ctV_hit (L : List Trm) (x : List UInt8) (j : Nat) (h : j < L.length) (he : eqT L x j = true) : ctV L x = true :=
  List.any_eq_true.2 ⟨j, by simpa using h, he⟩
theorem ctV_miss (L : List Trm) (x : List UInt8) (h : ∀ j, j < L.length → eqT L x j = false) : ctV L x = false := by
  cases hb : ctV L x with
  | false => rfl
  | true =>
    obtain ⟨j, hj, he⟩ := List.any_eq_true.1 hb
    rw [h j (by simpa using hj)] at he; cases he
theorem ctV_us (L : List Trm) (x : List UInt8) (h : exB L = true) : ctV L x = usB L x := by
  have hk := (exB_parts L h).2.1
  by_cases hu : ∃ j, j < L.length ∧ rkx L j = 1 ∧ rsx L j = x
  · obtain ⟨j, hj, h1, h2⟩ := hu
    rw [usB_hit L x j hj h1 h2]
    refine ctV_hit L x j hj ?_
    have := hk j hj
    simp [okR, trmB, h1, cntK] at this
    unfold eqT
    simp [h1, h2, this]
  · rw [usB_miss L x (fun j hj hh => hu ⟨j, hj, hh⟩)]
    refine ctV_miss L x fun j hj => ?_
    cases hb : eqT L x j with
    | false => rfl
    | true =>
      unfold eqT at hb
      simp at hb
      exact absurd ⟨j, hj, hb.1, hb.2.1⟩ hu
theorem eqTrmQ (a b : Int) (x y : ByteArray) (c d : Int) (w : World) : (Op.equalIn 10000 84 (.agg #[.int .i64 a, .string x, .int .i64 c]) (.agg #[.int .i64 b, .string y, .int .i64 d])).run Tryd.prog w = .ok (a == b && (x.toList == y.toList && c == d)) w := by
  have u3 := Tryd.underlying2
  have a3 := Tryd.isAgg2
  have z3 := Tryd.sizeOf2
  have u9 := Tryd.underlying9
  have a9 := Tryd.isAgg9
  have z9 := Tryd.sizeOf9
  have hS : Tryd.prog.underlying 84 = some (.struct (Tryd.prog.fieldsOf 84)) := by kernel_rfl
  rw [show (10000 : Nat) = 9999 + 1 from rfl, run_equalIn_agg w 9999 _ _ _ hS (by kernel_rfl)]
  simp only [Program.fieldsOf, Tryd.underlying84]
  go_simp
  by_cases h1 : a = b <;> by_cases h2 : x.toList = y.toList <;> by_cases h3 : c = d <;> simp [h1, h2, h3]
theorem i_IndexR (a : Option Addr) (n cap : Nat) (L : List Trm) (x : List UInt8) (w : World) (hs : Trs w a n L) :
    Calls Tryd.prog 124 #[.slice a n cap, .agg #[.int .i64 1, .string (tx x), .int .i64 0]] w fun e w' => ∃ r : Int, e = .returned (.int .i64 r) ∧ decide (0 ≤ r) = ctV L x ∧ Later w w' := by
  have heq := eqTrmQ
  have HS := Lib.hid hs
  have HL := Lib.hid hs.1
  have hn := hs.2.1
  have EQ := Lib.hid (fun y => eqx x y)
  have RH := Lib.hid (fun j h1 h2 => ctV_hit L x j h1 h2)
  have RM := Lib.hid (fun h => ctV_miss L x h)
  have HET : Hid (∀ j, eqT L x j = (decide (rkx L j = 1) && (decide (rsx L j = x) && decide (rnx L j = 0)))) := Lib.hid (fun _ => rfl)
  generalize ctV L x = V at RH RM ⊢
  obtain ⟨X, hX⟩ : ∃ X, X = tx x := ⟨_, rfl⟩
  rw [← hX] at EQ ⊢
  clear hs hX
  go_enter Tryd.func124, Tryd.ntmps124
  have q0 : (w.alloc (.cells #[.int .i64 1, .string X, .int .i64 0] 84)).cell? ⟨w.heap.size, 0, none⟩ = some (.int .i64 1) := by rw [cell_of_row _ _ 0 _ _ (0, 0) (heap_alloc_new w _)]; rfl
  have q1 : (w.alloc (.cells #[.int .i64 1, .string X, .int .i64 0] 84)).cell? ⟨w.heap.size, 1, none⟩ = some (.string X) := by rw [cell_of_row _ _ 1 _ _ (0, 0) (heap_alloc_new w _)]; rfl
  have q2 : (w.alloc (.cells #[.int .i64 1, .string X, .int .i64 0] 84)).cell? ⟨w.heap.size, 2, none⟩ = some (.int .i64 0) := by rw [cell_of_row _ _ 2 _ _ (0, 0) (heap_alloc_new w _)]; rfl
  have A0 : Hid (Later w (w.alloc (.cells #[.int .i64 1, .string X, .int .i64 0] 84))) := Lib.hid ((Later.refl _).alloc _)
  go_wp2_with fail
  generalize w.alloc (.cells #[.int .i64 1, .string X, .int .i64 0] 84) = W0 at A0 q0 q1 q2 ⊢
  have Q0 := Lib.hid q0; have Q1 := Lib.hid q1; have Q2 := Lib.hid q2
  have KQ : Hid (∀ W', Later W0 W' → W'.cell? ⟨w.heap.size, 0, none⟩ = some (.int .i64 1) ∧ W'.cell? ⟨w.heap.size, 1, none⟩ = some (.string X) ∧ W'.cell? ⟨w.heap.size, 2, none⟩ = some (.int .i64 0)) := Lib.hid (fun W' h => ⟨by rw [h.cell (p := ⟨w.heap.size, 0, none⟩) (cell_lt Q0.out)]; exact Q0.out, by rw [h.cell (p := ⟨w.heap.size, 1, none⟩) (cell_lt Q0.out)]; exact Q1.out, by rw [h.cell (p := ⟨w.heap.size, 2, none⟩) (cell_lt Q0.out)]; exact Q2.out⟩)
  clear q0 q1 q2 Q0 Q1 Q2
  have HS := Lib.hid (HS.out.later A0.out)
  go_loopw [8] (fun i wr => ∃ k : Nat, k ≤ n ∧ i = .int .i64 k ∧ Later W0 wr ∧ Hid (∀ j, j < k → eqT L x j = false)) (fun i _ => n - (intOf i).toNat)
  case atStart => exact ⟨0, by omega, rfl, Later.refl _, Lib.hid (by intro j h; omega)⟩
  case round =>
    obtain ⟨k, hk, rfl, hb, HI⟩ := hrel
    have B3 := Lib.hid hb
    obtain ⟨q0, q1, q2⟩ := KQ.out _ hb
    by_cases hlt : k < n
    · obtain ⟨b, off, rfl, c0, c1, c2⟩ := (HS.out.later hb).2.2.1 k hlt
      clear hb
      have EK := EQ.out (rsx L k)
      have HEK := Lib.hid (HET.out k)
      have HH := Lib.hid (RH.out k (by rw [HL.out]; exact hlt))
      obtain ⟨y, hy⟩ : ∃ y, y = tx (rsx L k) := ⟨_, rfl⟩
      rw [← hy] at c1 EK
      obtain ⟨ys, hys⟩ : ∃ ys, ys = rsx L k := ⟨_, rfl⟩
      rw [← hys] at EK HEK
      generalize rkx L k = kd at c0 HEK
      generalize rnx L k = nb at c2 HEK
      have HKX : Hid (eqT L x k = false → ∀ j, j < k + 1 → eqT L x j = false) := Lib.hid (fun h j hj => by
        rcases Nat.lt_or_ge j k with h1 | h1
        · exact HI.out j h1
        · obtain rfl : j = k := by omega
          exact h)
      have HG : Hid (((1 : Int) == kd && (X.toList == y.toList && (0 : Int) == nb)) = eqT L x k) := Lib.hid (by
        rw [HEK.out, EK]
        have e1 : ((1 : Int) == kd) = decide (kd = 1) := by by_cases h : kd = 1 <;> simp [h]; exact fun e => h e.symm
        have e2 : decide (x = ys) = decide (ys = x) := decide_eq_decide.2 ⟨Eq.symm, Eq.symm⟩
        have e3 : ((0 : Int) == nb) = decide (nb = 0) := by by_cases h : nb = 0 <;> simp [h]; exact fun e => h e.symm
        rw [e1, e2, e3])
      have hev : ∀ W, (Op.equalIn 10000 84 (.agg #[.int .i64 1, .string X, .int .i64 0]) (.agg #[.int .i64 kd, .string y, .int .i64 nb])).run Tryd.prog W = .ok (eqT L x k) W := fun W => by rw [heq, HG.out]
      clear hy hys EK HEK heq HG
      generalize eqT L x k = eb at hev HH HKX
      cases eb
      · have HK2 := Lib.hid (HKX.out rfl)
        go_wp2_with fail
        go_quiet (fail)
        all_goals
          go_wp2
          go_roundw
          case rel => exact ⟨k + 1, by omega, by go_num, B3.out.drewN _, HK2⟩
          case measure => simp [intOf]; omega
      · have HR := Lib.hid (HH.out rfl)
        have hd : decide ((0 : Int) ≤ (k : Int)) = true := decide_eq_true (by omega)
        have HD := Lib.hid hd
        clear hd
        go_wp2_with fail
        go_quiet (fail)
        all_goals
          go_wp2
          go_ret
          exact ⟨_, rfl, by rw [HR.out]; exact HD.out, A0.out.trans (B3.out.drewN _)⟩
    · obtain rfl : k = n := by omega
      have HR := Lib.hid (RM.out (by rw [HL.out]; exact HI.out))
      clear hb heq
      go_wp2_with fail
      all_goals
        go_ret
        exact ⟨-1, rfl, by rw [HR.out]; rfl, A0.out.trans B3.out⟩
theorem i_ContainsR (a : Option Addr) (n cap : Nat) (L : List Trm) (x : List UInt8) (w : World) (hs : Trs w a n L) :
    Calls Tryd.prog 102 #[.slice a n cap, .agg #[.int .i64 1, .string (tx x), .int .i64 0]] w fun e w' => e = .returned (.bool (ctV L x)) ∧ Later w w' := by
  have IX := Lib.hid (fun W (h : Later w W) => i_IndexR a n cap L x W (hs.later h))
  obtain ⟨X, hX⟩ : ∃ X, X = tx x := ⟨_, rfl⟩
  rw [← hX] at IX ⊢
  generalize ctV L x = V at IX ⊢
  clear hs hX
  have q0 : (w.alloc (.cells #[.int .i64 1, .string X, .int .i64 0] 84)).cell? ⟨w.heap.size, 0, none⟩ = some (.int .i64 1) := by rw [cell_of_row _ _ 0 _ _ (0, 0) (heap_alloc_new w _)]; rfl
  have q1 : (w.alloc (.cells #[.int .i64 1, .string X, .int .i64 0] 84)).cell? ⟨w.heap.size, 1, none⟩ = some (.string X) := by rw [cell_of_row _ _ 1 _ _ (0, 0) (heap_alloc_new w _)]; rfl
  have q2 : (w.alloc (.cells #[.int .i64 1, .string X, .int .i64 0] 84)).cell? ⟨w.heap.size, 2, none⟩ = some (.int .i64 0) := by rw [cell_of_row _ _ 2 _ _ (0, 0) (heap_alloc_new w _)]; rfl
  have A0 : Hid (Later w (w.alloc (.cells #[.int .i64 1, .string X, .int .i64 0] 84))) := Lib.hid ((Later.refl _).alloc _)
  go_enter Tryd.func102, Tryd.ntmps102
  go_wp2_with fail
  refine (IX.out _ A0.out).mono ?_
  rintro e w1 ⟨r, rfl, hr, hb⟩
  have B1 := Lib.hid (Later.trans A0.out hb)
  have HR := Lib.hid hr
  clear hb q0 q1 q2 hr
  go_wp2_with fail
  all_goals
    go_ret
    exact ⟨by rw [← HR.out]; rfl, B1.out⟩
theorem useS (M : List Lne) (x : List UInt8) (k : Nat) : usL M x (k + 1) = if usB (lrx M k) x = true then usL M x k ++ [(k : Int)] else usL M x k := rfl
def usW (p : Prg) (x : List UInt8) : List Int := if wrtB p = true then useV p.lns x else []
def blU (p : Prg) : Int := if wrtB p = true then 0 else 1
/-- a list of numbers of the call's own and a number, handed back -/
def RetO (w : World) (L : List Int) (E : Int) (e : Ending) (w' : World) : Prop := ∃ v, e = .returned (.tuple #[v, .int .i64 E]) ∧ Own w' w.heap.size v L ∧ Later w w'
theorem Own.laterU {w w' : World} {base : Nat} {v : Value} {l : List Int} (h : Own w base v l) (k : Later w w') : Own w' base v l := by
  refine h.kept (row := none) ⟨k.os, k.tape, k.output, k.size, fun i hi _ => k.block i hi⟩ (fun _ e => by cases e)
theorem Own.monoU {w : World} {base base' : Nat} {v : Value} {l : List Int} (h : Own w base v l) (hb : base' ≤ base) : Own w base' v l := by
  refine ⟨⟨h.1.1, ?_⟩, h.2⟩
  rcases h.1.2 with h0 | ⟨g, cap, cur, e, hg, r⟩
  · exact .inl h0
  · exact .inr ⟨g, cap, cur, e, by omega, r⟩
theorem own_noneU (w : World) (base : Nat) : Own w base (.slice none 0 0) [] := ⟨⟨rfl, .inl ⟨rfl, rfl⟩⟩, fun x hx => by simp at hx⟩
/-- a list of numbers of the call's own, handed back -/
def RetL (w : World) (L : List Int) (e : Ending) (w' : World) : Prop := ∃ v, e = .returned v ∧ Own w' w.heap.size v L ∧ Later w w'
theorem i_linesUsing (v : Value) (p : Prg) (x : List UInt8) (w : World) (hp : PgV w v p) (hw : wrtB p = true) : Calls Tryd.prog 60 #[v, .string (tx x)] w (RetL w (useV p.lns x)) := by
  obtain ⟨a1, c1, a2, c2, a3, c3, a4, c4, rfl, h1, h2, h3, h4, h5, h6⟩ := hp
  have P4 := Lib.hid h4
  have HU : Hid (∀ k, usL p.lns x (k + 1) = if usB (lrx p.lns k) x = true then usL p.lns x k ++ [(k : Int)] else usL p.lns x k) := Lib.hid (useS p.lns x)
  have HF : Hid (useV p.lns x = usL p.lns x p.lns.length) := Lib.hid rfl
  have HLN : Hid (∀ k, (usL p.lns x k).length ≤ k) := Lib.hid (usL_len p.lns x)
  have HCT : Hid (∀ j, j < p.lns.length → ctV (lrx p.lns j) x = usB (lrx p.lns j) x) := Lib.hid (fun j hj => ctV_us _ x ((wb_of p hw).2.2.2.2.2.2 j hj))
  have IC := Lib.hid (fun a n cap L W h => i_ContainsR a n cap L x W h)
  have hl : p.lns.length ≤ 40 := (wb_of p hw).2.2.2.2.2.1
  clear h1 h2 h3 h4 h5 h6 hw
  obtain ⟨X, hX⟩ : ∃ X, X = tx x := ⟨_, rfl⟩
  rw [← hX] at IC ⊢
  obtain ⟨s0, hs0⟩ : ∃ q, q = tx p.nm := ⟨_, rfl⟩
  obtain ⟨s4, hs4⟩ : ∃ q, q = tx p.grd := ⟨_, rfl⟩
  obtain ⟨n1, hn1⟩ : ∃ q, q = p.ins.length := ⟨_, rfl⟩
  obtain ⟨n2, hn2⟩ : ∃ q, q = p.vrs.length := ⟨_, rfl⟩
  obtain ⟨n3, hn3⟩ : ∃ q, q = p.outs.length := ⟨_, rfl⟩
  obtain ⟨n4, hn4⟩ : ∃ q, q = p.lns.length := ⟨_, rfl⟩
  simp only [← hs0, ← hs4, ← hn1, ← hn2, ← hn3, ← hn4] at P4 HU HF HCT hl ⊢
  generalize useV p.lns x = UV at HF ⊢
  generalize p.lns = M at *
  clear hs0 hs4 hn1 hn2 hn3 hn4 hX
  have q5 : (w.alloc (.cells #[.string s0, .slice a1 n1 c1, .slice a2 n2 c2, .slice a3 n3 c3, .string s4, .slice a4 n4 c4] 27)).cell? ⟨w.heap.size, 5, none⟩ = some (.slice a4 n4 c4) := by rw [cell_of_row _ _ 5 _ _ (0, 0) (heap_alloc_new w _)]; rfl
  have A0 : Hid (Later w (w.alloc (.cells #[.string s0, .slice a1 n1 c1, .slice a2 n2 c2, .slice a3 n3 c3, .string s4, .slice a4 n4 c4] 27))) := Lib.hid ((Later.refl _).alloc _)
  go_enter Tryd.func60, Tryd.ntmps60
  go_wp2_with fail
  generalize (w.alloc (.cells #[.string s0, .slice a1 n1 c1, .slice a2 n2 c2, .slice a3 n3 c3, .string s4, .slice a4 n4 c4] 27)) = W0 at A0 q5 ⊢
  clear q5
  go_loopw [5, 11] (fun s i wr => ∃ k : Nat, k ≤ n4 ∧ i = .int .i64 k ∧ Own wr w.heap.size s (usL M x k) ∧ Later w wr) (fun _ i _ => n4 - (intOf i).toNat)
  case atStart => exact ⟨0, by omega, rfl, own_noneU _ _, A0.out⟩
  case round =>
    obtain ⟨k, hk, rfl, ho, hb⟩ := hrel
    have B3 := Lib.hid hb
    have O3 := Lib.hid ho
    clear ho
    by_cases hlt : k < n4
    · obtain ⟨b, off, ta, tc, rfl, c00, c01, c2⟩ := P4.out.2.2.1 k hlt
      have c0 : wr.cell? ⟨b, off + k * 2, none⟩ = some (.string (tx (ltx M k))) := by rw [hb.cell (p := ⟨b, off + k * 2, none⟩) (cell_lt c00)]; exact c00
      have c1 : wr.cell? ⟨b, off + k * 2 + 1, none⟩ = some (.slice ta (lrx M k).length tc) := by rw [hb.cell (p := ⟨b, off + k * 2 + 1, none⟩) (cell_lt c01)]; exact c01
      have HUK := Lib.hid (HU.out k)
      have HCK := HCT.out k hlt
      have hlk := HLN.out k
      have HS := Lib.hid c2
      have CK := Lib.hid (fun W h => IC.out ta (lrx M k).length tc (lrx M k) W h)
      generalize ltx M k = yy at c0
      obtain ⟨Y, hY⟩ : ∃ Y, Y = tx yy := ⟨_, rfl⟩
      rw [← hY] at c0
      rw [HCK] at CK
      generalize usB (lrx M k) x = ub at CK HUK
      obtain ⟨q, hq⟩ : ∃ q, q = (lrx M k).length := ⟨_, rfl⟩
      rw [← hq] at c1 CK HS
      clear c00 c01 c2 hb hY hq HCK
      cases ub
      · have HE3 := Lib.hid (show usL M x (k + 1) = usL M x k from HUK.out)
        go_wp2_with (go_at_call 102; refine (CK.out _ (HS.out.later (B3.out.trans (by repeat (first | (with_reducible exact Later.refl _) | (with_reducible exact Hid.out (by assumption)) | (with_reducible refine Later.alloc ?_ _) | (with_reducible refine Later.setCell ?_ (by simp; omega) _) | (with_reducible refine Later.setCell ?_ (by simp) _) | (with_reducible refine Later.drewN ?_ _) | (with_reducible refine Later.drew ?_) | (with_reducible refine Later.trans ?_ (Hid.out (by assumption)))))))).mono ?_; rintro e w4 ⟨rfl, hb⟩; have H4 := Lib.hid hb; clear hb)
        go_roundw
        case rel => exact ⟨k + 1, by omega, by go_num, by rw [HE3.out]; exact O3.out.laterU (by repeat (first | (with_reducible exact Later.refl _) | (with_reducible exact Hid.out (by assumption)) | (with_reducible refine Later.alloc ?_ _) | (with_reducible refine Later.setCell ?_ (by simp; omega) _) | (with_reducible refine Later.setCell ?_ (by simp) _) | (with_reducible refine Later.drewN ?_ _) | (with_reducible refine Later.drew ?_) | (with_reducible refine Later.trans ?_ (Hid.out (by assumption))))), B3.out.trans (by repeat (first | (with_reducible exact Later.refl _) | (with_reducible exact Hid.out (by assumption)) | (with_reducible refine Later.alloc ?_ _) | (with_reducible refine Later.setCell ?_ (by simp; omega) _) | (with_reducible refine Later.setCell ?_ (by simp) _) | (with_reducible refine Later.drewN ?_ _) | (with_reducible refine Later.drew ?_) | (with_reducible refine Later.trans ?_ (Hid.out (by assumption)))))⟩
        case measure => simp [intOf]; omega
      · have HE3 := Lib.hid (show usL M x (k + 1) = usL M x k ++ [(k : Int)] from HUK.out)
        go_wp2_with (first
          | (go_at_call 102; refine (CK.out _ (HS.out.later (B3.out.trans (by repeat (first | (with_reducible exact Later.refl _) | (with_reducible exact Hid.out (by assumption)) | (with_reducible refine Later.alloc ?_ _) | (with_reducible refine Later.setCell ?_ (by simp; omega) _) | (with_reducible refine Later.setCell ?_ (by simp) _) | (with_reducible refine Later.drewN ?_ _) | (with_reducible refine Later.drew ?_) | (with_reducible refine Later.trans ?_ (Hid.out (by assumption)))))))).mono ?_; rintro e w4 ⟨rfl, hb⟩; have H4 := Lib.hid hb; clear hb)
          | (at_builtin; go_must (refine app1 rfl _ _ rfl w.heap.size _ _ _ (usL M x k) (k : Int) (O3.out.laterU (by repeat (first | (with_reducible exact Later.refl _) | (with_reducible exact Hid.out (by assumption)) | (with_reducible refine Later.alloc ?_ _) | (with_reducible refine Later.setCell ?_ (by simp; omega) _) | (with_reducible refine Later.setCell ?_ (by simp) _) | (with_reducible refine Later.drewN ?_ _) | (with_reducible refine Later.drew ?_) | (with_reducible refine Later.trans ?_ (Hid.out (by assumption)))))) rfl (by first | rfl | (simp only [World.heap_drewN, World.size_alloc]; rfl)) ⟨by omega, by omega⟩ (by omega) (Later.size (B3.out.trans (by repeat (first | (with_reducible exact Later.refl _) | (with_reducible exact Hid.out (by assumption)) | (with_reducible refine Later.alloc ?_ _) | (with_reducible refine Later.setCell ?_ (by simp; omega) _) | (with_reducible refine Later.setCell ?_ (by simp) _) | (with_reducible refine Later.drewN ?_ _) | (with_reducible refine Later.drew ?_) | (with_reducible refine Later.trans ?_ (Hid.out (by assumption))))))) ?_; intro v6 w6 ho hgr)))
        have O6 := Lib.hid ho
        rw [← HE3.out] at O6
        have B6 : Hid (Later w w6) := Lib.hid (Below.grown (show Later w _ from B3.out.trans (by repeat (first | (with_reducible exact Later.refl _) | (with_reducible exact Hid.out (by assumption)) | (with_reducible refine Later.alloc ?_ _) | (with_reducible refine Later.setCell ?_ (by simp; omega) _) | (with_reducible refine Later.setCell ?_ (by simp) _) | (with_reducible refine Later.drewN ?_ _) | (with_reducible refine Later.drew ?_) | (with_reducible refine Later.trans ?_ (Hid.out (by assumption)))))) hgr (Later.size (B3.out.trans (by repeat (first | (with_reducible exact Later.refl _) | (with_reducible exact Hid.out (by assumption)) | (with_reducible refine Later.alloc ?_ _) | (with_reducible refine Later.setCell ?_ (by simp; omega) _) | (with_reducible refine Later.setCell ?_ (by simp) _) | (with_reducible refine Later.drewN ?_ _) | (with_reducible refine Later.drew ?_) | (with_reducible refine Later.trans ?_ (Hid.out (by assumption))))))) (fun j hj => (O3.out.lt j hj).1))
        clear ho hgr
        go_roundw
        case rel => exact ⟨k + 1, by omega, by go_num, O6.out, B6.out⟩
        case measure => simp [intOf]; omega
    · obtain rfl : k = n4 := by omega
      clear hb
      go_wp2_with fail
      go_ret
      exact ⟨_, rfl, by rw [HF.out]; exact O3.out, B3.out⟩
theorem i_UsesOf (v : Value) (p : Prg) (x : List UInt8) (w : World) (hp : PgV w v p) (ho : Ops w) (hl : p.lns.length ≤ 1048576) : Calls Tryd.prog 23 #[v, .string (tx x)] w (RetO w (usW p x) (blU p)) := by
  have IW := Lib.hid (fun W (h : Later w W) => i_IsWritten v p W (hp.later h) (ho.later h) (by omega))
  have LU := Lib.hid (fun W (h : Later w W) (hw : wrtB p = true) => i_linesUsing v p x W (hp.later h) hw)
  have HV : Hid (usW p x = if wrtB p = true then useV p.lns x else []) := Lib.hid rfl
  have HE : Hid (blU p = if wrtB p = true then 0 else 1) := Lib.hid rfl
  obtain ⟨a1, c1, a2, c2, a3, c3, a4, c4, rfl, h1, h2, h3, h4, h5, h6⟩ := hp
  clear h1 h2 h3 h4 h5 h6 hl ho
  obtain ⟨X, hX⟩ : ∃ X, X = tx x := ⟨_, rfl⟩
  rw [← hX] at LU ⊢
  generalize usW p x = UW at HV ⊢
  generalize blU p = E at HE ⊢
  generalize wrtB p = b at IW LU HV HE
  generalize useV p.lns x = UV at LU HV
  obtain ⟨s0, hs0⟩ : ∃ q, q = tx p.nm := ⟨_, rfl⟩
  obtain ⟨s4, hs4⟩ : ∃ q, q = tx p.grd := ⟨_, rfl⟩
  obtain ⟨n1, hn1⟩ : ∃ q, q = p.ins.length := ⟨_, rfl⟩
  obtain ⟨n2, hn2⟩ : ∃ q, q = p.vrs.length := ⟨_, rfl⟩
  obtain ⟨n3, hn3⟩ : ∃ q, q = p.outs.length := ⟨_, rfl⟩
  obtain ⟨n4, hn4⟩ : ∃ q, q = p.lns.length := ⟨_, rfl⟩
  simp only [← hs0, ← hs4, ← hn1, ← hn2, ← hn3, ← hn4] at IW LU ⊢
  clear hs0 hs4 hn1 hn2 hn3 hn4 hX
  have q0 : (w.alloc (.cells #[.string s0, .slice a1 n1 c1, .slice a2 n2 c2, .slice a3 n3 c3, .string s4, .slice a4 n4 c4] 27)).cell? ⟨w.heap.size, 0, none⟩ = some (.string s0) := by rw [cell_of_row _ _ 0 _ _ (0, 0) (heap_alloc_new w _)]; rfl
  have q1 : (w.alloc (.cells #[.string s0, .slice a1 n1 c1, .slice a2 n2 c2, .slice a3 n3 c3, .string s4, .slice a4 n4 c4] 27)).cell? ⟨w.heap.size, 1, none⟩ = some (.slice a1 n1 c1) := by rw [cell_of_row _ _ 1 _ _ (0, 0) (heap_alloc_new w _)]; rfl
  have q2 : (w.alloc (.cells #[.string s0, .slice a1 n1 c1, .slice a2 n2 c2, .slice a3 n3 c3, .string s4, .slice a4 n4 c4] 27)).cell? ⟨w.heap.size, 2, none⟩ = some (.slice a2 n2 c2) := by rw [cell_of_row _ _ 2 _ _ (0, 0) (heap_alloc_new w _)]; rfl
  have q3 : (w.alloc (.cells #[.string s0, .slice a1 n1 c1, .slice a2 n2 c2, .slice a3 n3 c3, .string s4, .slice a4 n4 c4] 27)).cell? ⟨w.heap.size, 3, none⟩ = some (.slice a3 n3 c3) := by rw [cell_of_row _ _ 3 _ _ (0, 0) (heap_alloc_new w _)]; rfl
  have q4 : (w.alloc (.cells #[.string s0, .slice a1 n1 c1, .slice a2 n2 c2, .slice a3 n3 c3, .string s4, .slice a4 n4 c4] 27)).cell? ⟨w.heap.size, 4, none⟩ = some (.string s4) := by rw [cell_of_row _ _ 4 _ _ (0, 0) (heap_alloc_new w _)]; rfl
  have q5 : (w.alloc (.cells #[.string s0, .slice a1 n1 c1, .slice a2 n2 c2, .slice a3 n3 c3, .string s4, .slice a4 n4 c4] 27)).cell? ⟨w.heap.size, 5, none⟩ = some (.slice a4 n4 c4) := by rw [cell_of_row _ _ 5 _ _ (0, 0) (heap_alloc_new w _)]; rfl
  have hW0 : w.heap.size < (w.alloc (.cells #[.string s0, .slice a1 n1 c1, .slice a2 n2 c2, .slice a3 n3 c3, .string s4, .slice a4 n4 c4] 27)).heap.size := by rw [World.size_alloc]; exact Nat.lt_succ_self _
  have C0 : Hid (∀ W', Later (w.alloc (.cells #[.string s0, .slice a1 n1 c1, .slice a2 n2 c2, .slice a3 n3 c3, .string s4, .slice a4 n4 c4] 27)) W' → W'.cell? ⟨w.heap.size, 0, none⟩ = some (.string s0) ∧ W'.cell? ⟨w.heap.size, 1, none⟩ = some (.slice a1 n1 c1) ∧ W'.cell? ⟨w.heap.size, 2, none⟩ = some (.slice a2 n2 c2) ∧ W'.cell? ⟨w.heap.size, 3, none⟩ = some (.slice a3 n3 c3) ∧ W'.cell? ⟨w.heap.size, 4, none⟩ = some (.string s4) ∧ W'.cell? ⟨w.heap.size, 5, none⟩ = some (.slice a4 n4 c4)) := Lib.hid (fun W' q => ⟨by rw [q.cell (p := ⟨w.heap.size, 0, none⟩) hW0]; exact q0, by rw [q.cell (p := ⟨w.heap.size, 1, none⟩) hW0]; exact q1, by rw [q.cell (p := ⟨w.heap.size, 2, none⟩) hW0]; exact q2, by rw [q.cell (p := ⟨w.heap.size, 3, none⟩) hW0]; exact q3, by rw [q.cell (p := ⟨w.heap.size, 4, none⟩) hW0]; exact q4, by rw [q.cell (p := ⟨w.heap.size, 5, none⟩) hW0]; exact q5⟩)
  have A0 : Hid (Later w (w.alloc (.cells #[.string s0, .slice a1 n1 c1, .slice a2 n2 c2, .slice a3 n3 c3, .string s4, .slice a4 n4 c4] 27))) := Lib.hid ((Later.refl _).alloc _)
  clear hW0
  cases b
  · obtain rfl : UW = [] := HV.out
    obtain rfl : E = 1 := HE.out
    go_enter Tryd.func23, Tryd.ntmps23
    go_wp2_with fail
    generalize (w.alloc (.cells #[.string s0, .slice a1 n1 c1, .slice a2 n2 c2, .slice a3 n3 c3, .string s4, .slice a4 n4 c4] 27)) = W0 at C0 A0 q0 q1 q2 q3 q4 q5 ⊢
    refine (IW.out _ A0.out).mono ?_
    rintro e w1 ⟨rfl, hb⟩
    have B1 := Lib.hid (Later.trans A0.out hb)
    clear hb q0 q1 q2 q3 q4 q5
    go_wp2_with fail
    all_goals
      refine bodyPost_ret (v := .tuple #[.slice none 0 0, .int .i64 1]) (by simp [results, Tryd.results23, go_sem, *]) rfl ⟨_, rfl, own_noneU _ _, B1.out⟩
  · obtain rfl : UW = UV := HV.out
    obtain rfl : E = 0 := HE.out
    go_enter Tryd.func23, Tryd.ntmps23
    go_wp2_with fail
    generalize (w.alloc (.cells #[.string s0, .slice a1 n1 c1, .slice a2 n2 c2, .slice a3 n3 c3, .string s4, .slice a4 n4 c4] 27)) = W0 at C0 A0 q0 q1 q2 q3 q4 q5 ⊢
    refine (IW.out _ A0.out).mono ?_
    rintro e w1 ⟨rfl, hb⟩
    have B1 := Lib.hid (Later.trans A0.out hb)
    clear q0 q1 q2 q3 q4 q5
    obtain ⟨q0, q1, q2, q3, q4, q5⟩ := C0.out _ hb
    clear hb
    go_wp2_with fail
    refine (LU.out _ B1.out (by first | rfl | trivial)).mono ?_
    rintro e w2 ⟨u, rfl, ho, hb⟩
    have B2 := Lib.hid (Later.trans B1.out hb)
    have O2 := Lib.hid (ho.monoU B1.out.size)
    clear hb ho
    go_wp2_with fail
    all_goals
      refine bodyPost_ret (v := .tuple #[u, .int .i64 0]) (by simp [results, Tryd.results23, go_sem, *]) rfl ⟨_, rfl, O2.out, B2.out⟩
theorem s_Uses (a : Option Addr) (n cap : Nat) (L : List Trm) (x : List UInt8) (w : World) (hs : Trs w a n L) :
    Calls Tryd.prog 67 #[.slice a n cap, .string (tx x)] w fun e w' => e = .returned (.bool (usB L x)) ∧ w = w' := by
  have HS := Lib.hid hs
  have HL := Lib.hid hs.1
  have hn := hs.2.1
  have EQ := Lib.hid (fun y => eqx y x)
  have RH := Lib.hid (fun j h1 h2 h3 => usB_hit L x j h1 h2 h3)
  have RM := Lib.hid (fun h => usB_miss L x h)
  generalize usB L x = V at RH RM ⊢
  obtain ⟨X, hX⟩ : ∃ X, X = tx x := ⟨_, rfl⟩
  rw [← hX] at EQ ⊢
  clear hs hX
  go_enter Tryd.func67, Tryd.ntmps67
  go_wp2_with fail
  go_loop [5] (fun i => ∃ k : Nat, k ≤ n ∧ i = .int .i64 k ∧ Hid (∀ j, j < k → ¬(rkx L j = 1 ∧ rsx L j = x))) (fun i => n - (intOf i).toNat)
  case atStart => exact ⟨0, by omega, rfl, Lib.hid (by intro j h; omega)⟩
  case round =>
    obtain ⟨k, hk, rfl, HI⟩ := hrel
    by_cases hlt : k < n
    · obtain ⟨b, off, rfl, c0, c1, c2⟩ := HS.out.2.2.1 k hlt
      have EK := EQ.out (rsx L k)
      have HH := Lib.hid (RH.out k (by rw [HL.out]; exact hlt))
      have HKX : Hid (¬(rkx L k = 1 ∧ rsx L k = x) → ∀ j, j < k + 1 → ¬(rkx L j = 1 ∧ rsx L j = x)) := Lib.hid (fun h j hj => by
        rcases Nat.lt_or_ge j k with h1 | h1
        · exact HI.out j h1
        · obtain rfl : j = k := by omega
          exact h)
      obtain ⟨y, hy⟩ : ∃ y, y = tx (rsx L k) := ⟨_, rfl⟩
      rw [← hy] at c1 EK
      generalize rsx L k = ys at EK HH HKX
      generalize rkx L k = kd at c0 HH HKX
      clear hy
      by_cases h1 : kd = 1
      · subst h1
        by_cases h2 : ys = x
        · rw [decide_eq_true h2] at EK
          have HR := Lib.hid (HH.out rfl h2)
          clear h2
          go_wp2_with fail
          all_goals
            go_ret
            exact ⟨by rw [HR.out]; rfl, rfl⟩
        · rw [decide_eq_false h2] at EK
          have HK2 := Lib.hid (HKX.out (fun h => h2 h.2))
          clear h2
          go_wp2_with fail
          go_roundw
          case rel => exact ⟨k + 1, by omega, by go_num, HK2⟩
          case measure => simp [intOf]; omega
      · have HK2 := Lib.hid (HKX.out (fun h => h1 h.1))
        have hk1 : (kd == 1) = false := by simpa using h1
        clear h1
        go_wp2_with fail
        go_roundw
        case rel => exact ⟨k + 1, by omega, by go_num, HK2⟩
        case measure => simp [intOf]; omega
    · obtain rfl : k = n := by omega
      have HR := Lib.hid (RM.out (by rw [HL.out]; exact HI.out))
      go_wp2_with fail
      all_goals
        go_ret
        exact ⟨by rw [HR.out]; rfl, rfl⟩
theorem s_UsesOf (v : Value) (p : Prg) (x : List UInt8) (w : World) (hp : PgV w v p) (hl : p.lns.length ≤ 1048576) : Calls Tryd.prog 28 #[v, .string (tx x)] w (RetO w (usW p x) (blU p)) := by
  have IW := Lib.hid (fun W (h : Later w W) => s_IsWritten v p W (hp.later h) (by omega))
  have HV : Hid (usW p x = if wrtB p = true then useV p.lns x else []) := Lib.hid rfl
  have HE : Hid (blU p = if wrtB p = true then 0 else 1) := Lib.hid rfl
  obtain ⟨a1, c1, a2, c2, a3, c3, a4, c4, rfl, h1, h2, h3, h4, h5, h6⟩ := hp
  have P4 := Lib.hid h4
  have HU : Hid (∀ k, usL p.lns x (k + 1) = if usB (lrx p.lns k) x = true then usL p.lns x k ++ [(k : Int)] else usL p.lns x k) := Lib.hid (useS p.lns x)
  have HF : Hid (useV p.lns x = usL p.lns x p.lns.length) := Lib.hid rfl
  have HLN : Hid (∀ k, (usL p.lns x k).length ≤ k) := Lib.hid (usL_len p.lns x)
  have SU := Lib.hid (fun a n cap L W h => s_Uses a n cap L x W h)
  clear h1 h2 h3 h4 h5 h6
  obtain ⟨X, hX⟩ : ∃ X, X = tx x := ⟨_, rfl⟩
  rw [← hX] at SU ⊢
  generalize usW p x = UW at HV ⊢
  generalize blU p = E at HE ⊢
  generalize wrtB p = b at IW HV HE
  generalize useV p.lns x = UV at HF HV
  obtain ⟨s0, hs0⟩ : ∃ q, q = tx p.nm := ⟨_, rfl⟩
  obtain ⟨s4, hs4⟩ : ∃ q, q = tx p.grd := ⟨_, rfl⟩
  obtain ⟨n1, hn1⟩ : ∃ q, q = p.ins.length := ⟨_, rfl⟩
  obtain ⟨n2, hn2⟩ : ∃ q, q = p.vrs.length := ⟨_, rfl⟩
  obtain ⟨n3, hn3⟩ : ∃ q, q = p.outs.length := ⟨_, rfl⟩
  obtain ⟨n4, hn4⟩ : ∃ q, q = p.lns.length := ⟨_, rfl⟩
  simp only [← hs0, ← hs4, ← hn1, ← hn2, ← hn3, ← hn4] at IW P4 HU HF hl ⊢
  generalize p.lns = M at *
  clear hs0 hs4 hn1 hn2 hn3 hn4 hX
  have q0 : (w.alloc (.cells #[.string s0, .slice a1 n1 c1, .slice a2 n2 c2, .slice a3 n3 c3, .string s4, .slice a4 n4 c4] 27)).cell? ⟨w.heap.size, 0, none⟩ = some (.string s0) := by rw [cell_of_row _ _ 0 _ _ (0, 0) (heap_alloc_new w _)]; rfl
  have q1 : (w.alloc (.cells #[.string s0, .slice a1 n1 c1, .slice a2 n2 c2, .slice a3 n3 c3, .string s4, .slice a4 n4 c4] 27)).cell? ⟨w.heap.size, 1, none⟩ = some (.slice a1 n1 c1) := by rw [cell_of_row _ _ 1 _ _ (0, 0) (heap_alloc_new w _)]; rfl
  have q2 : (w.alloc (.cells #[.string s0, .slice a1 n1 c1, .slice a2 n2 c2, .slice a3 n3 c3, .string s4, .slice a4 n4 c4] 27)).cell? ⟨w.heap.size, 2, none⟩ = some (.slice a2 n2 c2) := by rw [cell_of_row _ _ 2 _ _ (0, 0) (heap_alloc_new w _)]; rfl
  have q3 : (w.alloc (.cells #[.string s0, .slice a1 n1 c1, .slice a2 n2 c2, .slice a3 n3 c3, .string s4, .slice a4 n4 c4] 27)).cell? ⟨w.heap.size, 3, none⟩ = some (.slice a3 n3 c3) := by rw [cell_of_row _ _ 3 _ _ (0, 0) (heap_alloc_new w _)]; rfl
  have q4 : (w.alloc (.cells #[.string s0, .slice a1 n1 c1, .slice a2 n2 c2, .slice a3 n3 c3, .string s4, .slice a4 n4 c4] 27)).cell? ⟨w.heap.size, 4, none⟩ = some (.string s4) := by rw [cell_of_row _ _ 4 _ _ (0, 0) (heap_alloc_new w _)]; rfl
  have q5 : (w.alloc (.cells #[.string s0, .slice a1 n1 c1, .slice a2 n2 c2, .slice a3 n3 c3, .string s4, .slice a4 n4 c4] 27)).cell? ⟨w.heap.size, 5, none⟩ = some (.slice a4 n4 c4) := by rw [cell_of_row _ _ 5 _ _ (0, 0) (heap_alloc_new w _)]; rfl
  have hW0 : w.heap.size < (w.alloc (.cells #[.string s0, .slice a1 n1 c1, .slice a2 n2 c2, .slice a3 n3 c3, .string s4, .slice a4 n4 c4] 27)).heap.size := by rw [World.size_alloc]; exact Nat.lt_succ_self _
  have C0 : Hid (∀ W', Later (w.alloc (.cells #[.string s0, .slice a1 n1 c1, .slice a2 n2 c2, .slice a3 n3 c3, .string s4, .slice a4 n4 c4] 27)) W' → W'.cell? ⟨w.heap.size, 0, none⟩ = some (.string s0) ∧ W'.cell? ⟨w.heap.size, 1, none⟩ = some (.slice a1 n1 c1) ∧ W'.cell? ⟨w.heap.size, 2, none⟩ = some (.slice a2 n2 c2) ∧ W'.cell? ⟨w.heap.size, 3, none⟩ = some (.slice a3 n3 c3) ∧ W'.cell? ⟨w.heap.size, 4, none⟩ = some (.string s4) ∧ W'.cell? ⟨w.heap.size, 5, none⟩ = some (.slice a4 n4 c4)) := Lib.hid (fun W' q => ⟨by rw [q.cell (p := ⟨w.heap.size, 0, none⟩) hW0]; exact q0, by rw [q.cell (p := ⟨w.heap.size, 1, none⟩) hW0]; exact q1, by rw [q.cell (p := ⟨w.heap.size, 2, none⟩) hW0]; exact q2, by rw [q.cell (p := ⟨w.heap.size, 3, none⟩) hW0]; exact q3, by rw [q.cell (p := ⟨w.heap.size, 4, none⟩) hW0]; exact q4, by rw [q.cell (p := ⟨w.heap.size, 5, none⟩) hW0]; exact q5⟩)
  have A0 : Hid (Later w (w.alloc (.cells #[.string s0, .slice a1 n1 c1, .slice a2 n2 c2, .slice a3 n3 c3, .string s4, .slice a4 n4 c4] 27))) := Lib.hid ((Later.refl _).alloc _)
  clear hW0
  have hzW : (w.alloc (.cells #[.string s0, .slice a1 n1 c1, .slice a2 n2 c2, .slice a3 n3 c3, .string s4, .slice a4 n4 c4] 27)).heap.size = w.heap.size + 1 := World.size_alloc _ _
  cases b
  · obtain rfl : UW = [] := HV.out
    obtain rfl : E = 1 := HE.out
    clear hzW
    go_enter Tryd.func28, Tryd.ntmps28
    go_wp2_with fail
    generalize (w.alloc (.cells #[.string s0, .slice a1 n1 c1, .slice a2 n2 c2, .slice a3 n3 c3, .string s4, .slice a4 n4 c4] 27)) = W0 at C0 A0 q0 q1 q2 q3 q4 q5 ⊢
    refine (IW.out _ A0.out).mono ?_
    rintro e w1 ⟨rfl, hb⟩
    have B1 := Lib.hid (Later.trans A0.out hb)
    clear hb q0 q1 q2 q3 q4 q5
    go_wp2_with fail
    all_goals
      refine bodyPost_ret (v := .tuple #[.slice none 0 0, .int .i64 1]) (by simp [results, Tryd.results28, go_sem, *]) rfl ⟨_, rfl, own_noneU _ _, B1.out⟩
  · obtain rfl : UW = UV := HV.out
    obtain rfl : E = 0 := HE.out
    go_enter Tryd.func28, Tryd.ntmps28
    go_wp2_with fail
    generalize (w.alloc (.cells #[.string s0, .slice a1 n1 c1, .slice a2 n2 c2, .slice a3 n3 c3, .string s4, .slice a4 n4 c4] 27)) = W0 at C0 A0 hzW q0 q1 q2 q3 q4 q5 ⊢
    have HZW := Lib.hid hzW
    clear hzW
    refine (IW.out _ A0.out).mono ?_
    rintro e w1 ⟨rfl, hb⟩
    have L1 := Lib.hid (show Later W0 w1 from hb)
    clear q0 q1 q2 q3 q4 q5
    obtain ⟨q0, q1, q2, q3, q4, q5⟩ := C0.out _ hb
    clear hb
    go_wp2_with fail
    clear q0 q1 q2 q3 q4 q5
    have O0 : Hid (Own (w1.alloc (.cells #[] 2)) W0.heap.size (.slice (some ⟨w1.heap.size, 0, none⟩) 0 0) []) := Lib.hid (own_new w1 W0.heap.size L1.out.size)
    go_loopw [6, 7] (fun s i wr => ∃ k : Nat, k ≤ n4 ∧ i = .int .i64 k ∧ Own wr W0.heap.size s (usL M x k) ∧ Later W0 wr) (fun _ i _ => n4 - (intOf i).toNat)
    case atStart => exact ⟨0, by omega, rfl, O0.out, L1.out.alloc _⟩
    case round =>
      obtain ⟨k, hk, rfl, ho, hb⟩ := hrel
      have L3 := Lib.hid hb
      have O3 := Lib.hid ho
      obtain ⟨q0, q1, q2, q3, q4, q5⟩ := C0.out _ hb
      clear ho
      by_cases hlt : k < n4
      · obtain ⟨b, off, ta, tc, rfl, c0, c1, c2⟩ := (P4.out.later (A0.out.trans hb)).2.2.1 k hlt
        have HUK := Lib.hid (HU.out k)
        have hlk := HLN.out k
        have CK := Lib.hid (SU.out ta (lrx M k).length tc (lrx M k) _ c2)
        generalize usB (lrx M k) x = ub at CK HUK
        obtain ⟨q, hq⟩ : ∃ q, q = (lrx M k).length := ⟨_, rfl⟩
        rw [← hq] at c1 CK
        clear c0 c2 hb hq
        cases ub
        · have HE3 := Lib.hid (show usL M x (k + 1) = usL M x k from HUK.out)
          go_wp2_with (go_at_call 67; refine CK.out.mono ?_; rintro e w' ⟨rfl, rfl⟩)
          go_roundw
          case rel => exact ⟨k + 1, by omega, by go_num, by rw [HE3.out]; exact O3.out, L3.out⟩
          case measure => simp [intOf]; omega
        · have HE3 := Lib.hid (show usL M x (k + 1) = usL M x k ++ [(k : Int)] from HUK.out)
          go_wp2_with (first
            | (go_at_call 67; refine CK.out.mono ?_; rintro e w' ⟨rfl, rfl⟩)
            | (at_builtin; go_must (refine app1 rfl _ _ rfl W0.heap.size _ _ _ (usL M x k) (k : Int) O3.out rfl (by first | rfl | (simp only [World.heap_drewN, World.size_alloc]; rfl)) ⟨by omega, by omega⟩ (by omega) L3.out.size ?_; intro v6 w6 ho hgr)))
          have O6 := Lib.hid ho
          rw [← HE3.out] at O6
          have B6 : Hid (Later W0 w6) := Lib.hid (Below.grown L3.out hgr L3.out.size (fun j hj => (O3.out.lt j hj).1))
          clear ho hgr
          go_roundw
          case rel => exact ⟨k + 1, by omega, by go_num, O6.out, B6.out⟩
          case measure => simp [intOf]; omega
      · obtain rfl : k = n4 := by omega
        clear hb
        go_wp2_with fail
        refine bodyPost_ret (v := .tuple #[_, .int .i64 0]) (by simp [results, Tryd.results28, go_sem, *]; rfl) rfl ⟨_, rfl, (by rw [HF.out]; exact O3.out.monoU A0.out.size), A0.out.trans L3.out⟩
end Go.Proofs.YtokipobjpinhmaaDoor
namespace Go.Proofs.YtokipobjpinhmaaDoor
open Go.RowKit Go.Shelf Go.Maps
set_option maxHeartbeats 4000000
set_option maxRecDepth 100000
set_option linter.unusedVariables false
set_option linter.unusedSimpArgs false
theorem look_of {w : World} {b c : Nat} {S : List (List UInt8)} {x : List UInt8} {X : ByteArray} {g : Bool} (h : NSk w b c S) (hk : keyOf Tryd.prog 9 (.string X) = some (.string x)) (hat : (nsD (H := Unit) S).atKey (.string x) (.lit (.bool false)) = .lit (.bool g)) : (Instr.lookup TM (.map (some b)) (.string X) false).run Tryd.prog w = .ok (.bool g) w := by
  obtain ⟨v, ps, hrun, hv⟩ := World.ownsMap.lookup h lawN Tryd.underlying86 (zeroB w) (plainElem_bool Tryd.underlying4 false) hk
  obtain ⟨y, rfl, hy⟩ := plainElem_bool_inv Tryd.underlying4 hv
  rw [hat] at hy
  obtain rfl : g = y := by
    have := congrArg Prod.fst hy
    simpa using this
  exact hrun
/-- a slice of texts, handed back to be read -/
def RetSt (w : World) (S : List (List UInt8)) (e : Ending) (w' : World) : Prop := ∃ a n c, e = .returned (.slice a n c) ∧ n ≤ 1048576 ∧ Sts w' a n S ∧ Later w w'
theorem RetTs.st {w : World} {S : List (List UInt8)} (hl : S.length ≤ 1048576) (hs : ∀ x ∈ S, x.length ≤ 1048576) {e : Ending} {w' : World} (h : RetTs w S e w') : RetSt w S e w' := by
  obtain ⟨u, rfl, ho, hb⟩ := h
  obtain ⟨a, c, rfl, _, h1, _⟩ := ho.sts hs
  exact ⟨a, _, c, rfl, hl, h1, hb⟩
theorem nmV_short {w : World} {a : Option Addr} {n : Nat} {M : List Lne} (h : Lns w a n M) : ∀ x ∈ nmV M, x.length ≤ 1048576 := by
  intro x hx
  obtain ⟨y, hy, hx⟩ := List.mem_flatMap.1 hx
  obtain ⟨j, hj, rfl⟩ := List.mem_iff_getElem.1 hy
  obtain ⟨b, off, ta, tc, _, _, _, ht⟩ := h.2.2.1 j (by rw [← h.1]; exact hj)
  rw [lx_at M j hj] at hx
  obtain ⟨z, hz, rfl⟩ := List.mem_map.1 hx
  exact (ht.2.2.2 z (List.mem_filter.1 hz).1).2.1
theorem mem_app2 {A B : List (List UInt8)} (ha : ∀ x ∈ A, x.length ≤ 1048576) (hb : ∀ x ∈ B, x.length ≤ 1048576) : ∀ x ∈ A ++ B, x.length ≤ 1048576 := fun x hx => (List.mem_append.1 hx).elim (ha x) (hb x)
theorem PgV.shorts {w : World} {v : Value} {p : Prg} (h : PgV w v p) : (∀ x ∈ p.ins, x.length ≤ 1048576) ∧ (∀ x ∈ p.vrs, x.length ≤ 1048576) ∧ (∀ x ∈ p.outs, x.length ≤ 1048576) ∧ (∀ x ∈ tgs p.lns, x.length ≤ 1048576) ∧ (∀ x ∈ nmV p.lns, x.length ≤ 1048576) := by
  obtain ⟨a1, c1, a2, c2, a3, c3, a4, c4, _, h1, h2, h3, h4, _, _⟩ := h
  exact ⟨h1.2.2.2, h2.2.2.2, h3.2.2.2, tgs_short h4, nmV_short h4⟩
/-- the contracts of a program's methods, at every later world -/
structure Mth (w : World) (v : Value) (p : Prg) : Prop where
  dc : ∀ W, Later w W → Calls Tryd.prog 77 #[v] W (RetSt W (p.ins ++ p.vrs ++ p.outs))
  ac : ∀ W, Later w W → Calls Tryd.prog 119 #[v] W (RetSt W (p.vrs ++ p.outs))
  rc : ∀ W, Later w W → Calls Tryd.prog 118 #[v] W (RetN W (p.ins ++ p.vrs))
  tg : ∀ W, Later w W → Calls Tryd.prog 59 #[v] W (RetSt W (tgs p.lns))
  us : ∀ W, Later w W → Calls Tryd.prog 121 #[v] W (RetSt W (nmV p.lns))
theorem mth_of (base : Nat) (v : Value) (p : Prg) (w : World) (hp : PgC base w v p) (hb : Wb p) : Mth w v p := by
  obtain ⟨s1, s2, s3, s4, s5⟩ := hp.pgv.shorts
  obtain ⟨b1, b2, b3, b4, b5, h40, _⟩ := id hb
  have LT : (tgs p.lns).length ≤ 1048576 := by rw [tgs_len]; omega
  have LA : (p.vrs ++ p.outs).length ≤ 1048576 := by rw [List.length_append]; omega
  have LD : (p.ins ++ p.vrs ++ p.outs).length ≤ 1048576 := by rw [List.length_append, List.length_append]; omega
  have LU : (nmV p.lns).length ≤ 1048576 := by
    have := nmV_len p.lns (fun j h => hb.len j h) p.lns.length (Nat.le_refl _)
    rw [List.take_length] at this; omega
  exact {
    dc := fun W h => (i_declared base v p W (hp.later h) hb).mono fun _ _ q => RetTs.st LD (mem_app2 (mem_app2 s1 s2) s3) q
    ac := fun W h => (i_assignable base v p W (hp.later h) hb).mono fun _ _ q => RetTs.st LA (mem_app2 s2 s3) q
    rc := fun W h => i_readable base v p W (hp.later h) hb
    tg := fun W h => (i_targets v p W (hp.pgv.later h) (by omega)).mono fun _ _ q => RetTs.st LT s4 q
    us := fun W h => (i_used v p W (hp.pgv.later h) hb).mono fun _ _ q => RetTs.st LU s5 q }
theorem i_declaresNamesOnce (base : Nat) (v : Value) (p : Prg) (w : World) (hp : PgC base w v p) (hb : Wb p) : Calls Tryd.prog 90 #[v] w fun e w' => e = .returned (.bool (ru1 p)) ∧ Later w w' := by
  have MT := mth_of base v p w hp hb
  have DC := Lib.hid MT.dc; have AC := Lib.hid MT.ac; have RC := Lib.hid MT.rc; have TG := Lib.hid MT.tg; have US := Lib.hid MT.us
  obtain ⟨b1, b2, b3, b4, b5, b6, _⟩ := hb
  clear MT
  obtain ⟨a1, c1, a2, c2, a3, c3, a4, c4, rfl, _, _, _, _, _, _⟩ := hp.pgv
  clear hp b1 b2 b3 b4 b5 b6
  obtain ⟨s0, hs0⟩ : ∃ q, q = tx p.nm := ⟨_, rfl⟩
  obtain ⟨s4, hs4⟩ : ∃ q, q = tx p.grd := ⟨_, rfl⟩
  obtain ⟨n1, hn1⟩ : ∃ q, q = p.ins.length := ⟨_, rfl⟩
  obtain ⟨n2, hn2⟩ : ∃ q, q = p.vrs.length := ⟨_, rfl⟩
  obtain ⟨n3, hn3⟩ : ∃ q, q = p.outs.length := ⟨_, rfl⟩
  obtain ⟨n4, hn4⟩ : ∃ q, q = p.lns.length := ⟨_, rfl⟩
  simp only [← hs0, ← hs4, ← hn1, ← hn2, ← hn3, ← hn4] at DC AC RC TG US ⊢
  clear hs0 hs4 hn1 hn2 hn3 hn4
  have q0 : (w.alloc (.cells #[.string s0, .slice a1 n1 c1, .slice a2 n2 c2, .slice a3 n3 c3, .string s4, .slice a4 n4 c4] 27)).cell? ⟨w.heap.size, 0, none⟩ = some (.string s0) := by rw [cell_of_row _ _ 0 _ _ (0, 0) (heap_alloc_new w _)]; rfl
  have q1 : (w.alloc (.cells #[.string s0, .slice a1 n1 c1, .slice a2 n2 c2, .slice a3 n3 c3, .string s4, .slice a4 n4 c4] 27)).cell? ⟨w.heap.size, 1, none⟩ = some (.slice a1 n1 c1) := by rw [cell_of_row _ _ 1 _ _ (0, 0) (heap_alloc_new w _)]; rfl
  have q2 : (w.alloc (.cells #[.string s0, .slice a1 n1 c1, .slice a2 n2 c2, .slice a3 n3 c3, .string s4, .slice a4 n4 c4] 27)).cell? ⟨w.heap.size, 2, none⟩ = some (.slice a2 n2 c2) := by rw [cell_of_row _ _ 2 _ _ (0, 0) (heap_alloc_new w _)]; rfl
  have q3 : (w.alloc (.cells #[.string s0, .slice a1 n1 c1, .slice a2 n2 c2, .slice a3 n3 c3, .string s4, .slice a4 n4 c4] 27)).cell? ⟨w.heap.size, 3, none⟩ = some (.slice a3 n3 c3) := by rw [cell_of_row _ _ 3 _ _ (0, 0) (heap_alloc_new w _)]; rfl
  have q4 : (w.alloc (.cells #[.string s0, .slice a1 n1 c1, .slice a2 n2 c2, .slice a3 n3 c3, .string s4, .slice a4 n4 c4] 27)).cell? ⟨w.heap.size, 4, none⟩ = some (.string s4) := by rw [cell_of_row _ _ 4 _ _ (0, 0) (heap_alloc_new w _)]; rfl
  have q5 : (w.alloc (.cells #[.string s0, .slice a1 n1 c1, .slice a2 n2 c2, .slice a3 n3 c3, .string s4, .slice a4 n4 c4] 27)).cell? ⟨w.heap.size, 5, none⟩ = some (.slice a4 n4 c4) := by rw [cell_of_row _ _ 5 _ _ (0, 0) (heap_alloc_new w _)]; rfl
  have hW0 : w.heap.size < (w.alloc (.cells #[.string s0, .slice a1 n1 c1, .slice a2 n2 c2, .slice a3 n3 c3, .string s4, .slice a4 n4 c4] 27)).heap.size := by rw [World.size_alloc]; exact Nat.lt_succ_self _
  have C0 : Hid (∀ W', Later (w.alloc (.cells #[.string s0, .slice a1 n1 c1, .slice a2 n2 c2, .slice a3 n3 c3, .string s4, .slice a4 n4 c4] 27)) W' → W'.cell? ⟨w.heap.size, 0, none⟩ = some (.string s0) ∧ W'.cell? ⟨w.heap.size, 1, none⟩ = some (.slice a1 n1 c1) ∧ W'.cell? ⟨w.heap.size, 2, none⟩ = some (.slice a2 n2 c2) ∧ W'.cell? ⟨w.heap.size, 3, none⟩ = some (.slice a3 n3 c3) ∧ W'.cell? ⟨w.heap.size, 4, none⟩ = some (.string s4) ∧ W'.cell? ⟨w.heap.size, 5, none⟩ = some (.slice a4 n4 c4)) := Lib.hid (fun W' q => ⟨by rw [q.cell (p := ⟨w.heap.size, 0, none⟩) hW0]; exact q0, by rw [q.cell (p := ⟨w.heap.size, 1, none⟩) hW0]; exact q1, by rw [q.cell (p := ⟨w.heap.size, 2, none⟩) hW0]; exact q2, by rw [q.cell (p := ⟨w.heap.size, 3, none⟩) hW0]; exact q3, by rw [q.cell (p := ⟨w.heap.size, 4, none⟩) hW0]; exact q4, by rw [q.cell (p := ⟨w.heap.size, 5, none⟩) hW0]; exact q5⟩)
  have A0 : Hid (Later w (w.alloc (.cells #[.string s0, .slice a1 n1 c1, .slice a2 n2 c2, .slice a3 n3 c3, .string s4, .slice a4 n4 c4] 27))) := Lib.hid ((Later.refl _).alloc _)
  clear hW0
  go_enter Tryd.func90, Tryd.ntmps90
  go_wp2_with fail
  generalize (w.alloc (.cells #[.string s0, .slice a1 n1 c1, .slice a2 n2 c2, .slice a3 n3 c3, .string s4, .slice a4 n4 c4] 27)) = W0 at C0 A0 q0 q1 q2 q3 q4 q5 ⊢
  have B0 := A0
  have L0 := Lib.hid (Later.refl W0)
  refine (DC.out _ B0.out).mono ?_
  rintro e w1 ⟨u1, m1, k1, rfl, hn, hs, hb⟩
  have B1 := Lib.hid (Later.trans B0.out hb)
  have L1 := Lib.hid (Later.trans L0.out hb)
  have S1 := Lib.hid hs
  clear hb hs q0 q1 q2 q3 q4 q5
  have HV : Hid (ru1 p = decide (p.ins ++ p.vrs ++ p.outs).Nodup) := Lib.hid rfl
  have DI := Lib.hid (i_areDistinct u1 _ k1 (p.ins ++ p.vrs ++ p.outs) w1 S1.out hn)
  generalize decide (p.ins ++ p.vrs ++ p.outs).Nodup = V at DI HV
  go_wp2_with fail
  refine DI.out.mono ?_
  rintro e w2 ⟨rfl, hb⟩
  have B2 := Lib.hid (Later.trans B1.out hb)
  clear hb
  go_wp2_with fail
  go_ret
  exact ⟨by rw [HV.out]; rfl, B2.out⟩
theorem i_assignsNothingTwice (base : Nat) (v : Value) (p : Prg) (w : World) (hp : PgC base w v p) (hb : Wb p) : Calls Tryd.prog 93 #[v] w fun e w' => e = .returned (.bool (ru4 p)) ∧ Later w w' := by
  have MT := mth_of base v p w hp hb
  have DC := Lib.hid MT.dc; have AC := Lib.hid MT.ac; have RC := Lib.hid MT.rc; have TG := Lib.hid MT.tg; have US := Lib.hid MT.us
  obtain ⟨b1, b2, b3, b4, b5, b6, _⟩ := hb
  clear MT
  obtain ⟨a1, c1, a2, c2, a3, c3, a4, c4, rfl, _, _, _, _, _, _⟩ := hp.pgv
  clear hp b1 b2 b3 b4 b5 b6
  obtain ⟨s0, hs0⟩ : ∃ q, q = tx p.nm := ⟨_, rfl⟩
  obtain ⟨s4, hs4⟩ : ∃ q, q = tx p.grd := ⟨_, rfl⟩
  obtain ⟨n1, hn1⟩ : ∃ q, q = p.ins.length := ⟨_, rfl⟩
  obtain ⟨n2, hn2⟩ : ∃ q, q = p.vrs.length := ⟨_, rfl⟩
  obtain ⟨n3, hn3⟩ : ∃ q, q = p.outs.length := ⟨_, rfl⟩
  obtain ⟨n4, hn4⟩ : ∃ q, q = p.lns.length := ⟨_, rfl⟩
  simp only [← hs0, ← hs4, ← hn1, ← hn2, ← hn3, ← hn4] at DC AC RC TG US ⊢
  clear hs0 hs4 hn1 hn2 hn3 hn4
  have q0 : (w.alloc (.cells #[.string s0, .slice a1 n1 c1, .slice a2 n2 c2, .slice a3 n3 c3, .string s4, .slice a4 n4 c4] 27)).cell? ⟨w.heap.size, 0, none⟩ = some (.string s0) := by rw [cell_of_row _ _ 0 _ _ (0, 0) (heap_alloc_new w _)]; rfl
  have q1 : (w.alloc (.cells #[.string s0, .slice a1 n1 c1, .slice a2 n2 c2, .slice a3 n3 c3, .string s4, .slice a4 n4 c4] 27)).cell? ⟨w.heap.size, 1, none⟩ = some (.slice a1 n1 c1) := by rw [cell_of_row _ _ 1 _ _ (0, 0) (heap_alloc_new w _)]; rfl
  have q2 : (w.alloc (.cells #[.string s0, .slice a1 n1 c1, .slice a2 n2 c2, .slice a3 n3 c3, .string s4, .slice a4 n4 c4] 27)).cell? ⟨w.heap.size, 2, none⟩ = some (.slice a2 n2 c2) := by rw [cell_of_row _ _ 2 _ _ (0, 0) (heap_alloc_new w _)]; rfl
  have q3 : (w.alloc (.cells #[.string s0, .slice a1 n1 c1, .slice a2 n2 c2, .slice a3 n3 c3, .string s4, .slice a4 n4 c4] 27)).cell? ⟨w.heap.size, 3, none⟩ = some (.slice a3 n3 c3) := by rw [cell_of_row _ _ 3 _ _ (0, 0) (heap_alloc_new w _)]; rfl
  have q4 : (w.alloc (.cells #[.string s0, .slice a1 n1 c1, .slice a2 n2 c2, .slice a3 n3 c3, .string s4, .slice a4 n4 c4] 27)).cell? ⟨w.heap.size, 4, none⟩ = some (.string s4) := by rw [cell_of_row _ _ 4 _ _ (0, 0) (heap_alloc_new w _)]; rfl
  have q5 : (w.alloc (.cells #[.string s0, .slice a1 n1 c1, .slice a2 n2 c2, .slice a3 n3 c3, .string s4, .slice a4 n4 c4] 27)).cell? ⟨w.heap.size, 5, none⟩ = some (.slice a4 n4 c4) := by rw [cell_of_row _ _ 5 _ _ (0, 0) (heap_alloc_new w _)]; rfl
  have hW0 : w.heap.size < (w.alloc (.cells #[.string s0, .slice a1 n1 c1, .slice a2 n2 c2, .slice a3 n3 c3, .string s4, .slice a4 n4 c4] 27)).heap.size := by rw [World.size_alloc]; exact Nat.lt_succ_self _
  have C0 : Hid (∀ W', Later (w.alloc (.cells #[.string s0, .slice a1 n1 c1, .slice a2 n2 c2, .slice a3 n3 c3, .string s4, .slice a4 n4 c4] 27)) W' → W'.cell? ⟨w.heap.size, 0, none⟩ = some (.string s0) ∧ W'.cell? ⟨w.heap.size, 1, none⟩ = some (.slice a1 n1 c1) ∧ W'.cell? ⟨w.heap.size, 2, none⟩ = some (.slice a2 n2 c2) ∧ W'.cell? ⟨w.heap.size, 3, none⟩ = some (.slice a3 n3 c3) ∧ W'.cell? ⟨w.heap.size, 4, none⟩ = some (.string s4) ∧ W'.cell? ⟨w.heap.size, 5, none⟩ = some (.slice a4 n4 c4)) := Lib.hid (fun W' q => ⟨by rw [q.cell (p := ⟨w.heap.size, 0, none⟩) hW0]; exact q0, by rw [q.cell (p := ⟨w.heap.size, 1, none⟩) hW0]; exact q1, by rw [q.cell (p := ⟨w.heap.size, 2, none⟩) hW0]; exact q2, by rw [q.cell (p := ⟨w.heap.size, 3, none⟩) hW0]; exact q3, by rw [q.cell (p := ⟨w.heap.size, 4, none⟩) hW0]; exact q4, by rw [q.cell (p := ⟨w.heap.size, 5, none⟩) hW0]; exact q5⟩)
  have A0 : Hid (Later w (w.alloc (.cells #[.string s0, .slice a1 n1 c1, .slice a2 n2 c2, .slice a3 n3 c3, .string s4, .slice a4 n4 c4] 27))) := Lib.hid ((Later.refl _).alloc _)
  clear hW0
  go_enter Tryd.func93, Tryd.ntmps93
  go_wp2_with fail
  generalize (w.alloc (.cells #[.string s0, .slice a1 n1 c1, .slice a2 n2 c2, .slice a3 n3 c3, .string s4, .slice a4 n4 c4] 27)) = W0 at C0 A0 q0 q1 q2 q3 q4 q5 ⊢
  have B0 := A0
  have L0 := Lib.hid (Later.refl W0)
  refine (TG.out _ B0.out).mono ?_
  rintro e w1 ⟨u1, m1, k1, rfl, hn, hs, hb⟩
  have B1 := Lib.hid (Later.trans B0.out hb)
  have L1 := Lib.hid (Later.trans L0.out hb)
  have S1 := Lib.hid hs
  clear hb hs q0 q1 q2 q3 q4 q5
  have HV : Hid (ru4 p = decide (tgs p.lns).Nodup) := Lib.hid rfl
  have DI := Lib.hid (i_areDistinct u1 _ k1 (tgs p.lns) w1 S1.out hn)
  generalize decide (tgs p.lns).Nodup = V at DI HV
  go_wp2_with fail
  refine DI.out.mono ?_
  rintro e w2 ⟨rfl, hb⟩
  have B2 := Lib.hid (Later.trans B1.out hb)
  clear hb
  go_wp2_with fail
  go_ret
  exact ⟨by rw [HV.out]; rfl, B2.out⟩
theorem i_assignsNothingElse (base : Nat) (v : Value) (p : Prg) (w : World) (hp : PgC base w v p) (hb : Wb p) : Calls Tryd.prog 92 #[v] w fun e w' => e = .returned (.bool (ru3 p)) ∧ Later w w' := by
  have MT := mth_of base v p w hp hb
  have DC := Lib.hid MT.dc; have AC := Lib.hid MT.ac; have RC := Lib.hid MT.rc; have TG := Lib.hid MT.tg; have US := Lib.hid MT.us
  obtain ⟨b1, b2, b3, b4, b5, b6, _⟩ := hb
  clear MT
  obtain ⟨a1, c1, a2, c2, a3, c3, a4, c4, rfl, _, _, _, _, _, _⟩ := hp.pgv
  clear hp b1 b2 b3 b4 b5 b6
  obtain ⟨s0, hs0⟩ : ∃ q, q = tx p.nm := ⟨_, rfl⟩
  obtain ⟨s4, hs4⟩ : ∃ q, q = tx p.grd := ⟨_, rfl⟩
  obtain ⟨n1, hn1⟩ : ∃ q, q = p.ins.length := ⟨_, rfl⟩
  obtain ⟨n2, hn2⟩ : ∃ q, q = p.vrs.length := ⟨_, rfl⟩
  obtain ⟨n3, hn3⟩ : ∃ q, q = p.outs.length := ⟨_, rfl⟩
  obtain ⟨n4, hn4⟩ : ∃ q, q = p.lns.length := ⟨_, rfl⟩
  simp only [← hs0, ← hs4, ← hn1, ← hn2, ← hn3, ← hn4] at DC AC RC TG US ⊢
  clear hs0 hs4 hn1 hn2 hn3 hn4
  have q0 : (w.alloc (.cells #[.string s0, .slice a1 n1 c1, .slice a2 n2 c2, .slice a3 n3 c3, .string s4, .slice a4 n4 c4] 27)).cell? ⟨w.heap.size, 0, none⟩ = some (.string s0) := by rw [cell_of_row _ _ 0 _ _ (0, 0) (heap_alloc_new w _)]; rfl
  have q1 : (w.alloc (.cells #[.string s0, .slice a1 n1 c1, .slice a2 n2 c2, .slice a3 n3 c3, .string s4, .slice a4 n4 c4] 27)).cell? ⟨w.heap.size, 1, none⟩ = some (.slice a1 n1 c1) := by rw [cell_of_row _ _ 1 _ _ (0, 0) (heap_alloc_new w _)]; rfl
  have q2 : (w.alloc (.cells #[.string s0, .slice a1 n1 c1, .slice a2 n2 c2, .slice a3 n3 c3, .string s4, .slice a4 n4 c4] 27)).cell? ⟨w.heap.size, 2, none⟩ = some (.slice a2 n2 c2) := by rw [cell_of_row _ _ 2 _ _ (0, 0) (heap_alloc_new w _)]; rfl
  have q3 : (w.alloc (.cells #[.string s0, .slice a1 n1 c1, .slice a2 n2 c2, .slice a3 n3 c3, .string s4, .slice a4 n4 c4] 27)).cell? ⟨w.heap.size, 3, none⟩ = some (.slice a3 n3 c3) := by rw [cell_of_row _ _ 3 _ _ (0, 0) (heap_alloc_new w _)]; rfl
  have q4 : (w.alloc (.cells #[.string s0, .slice a1 n1 c1, .slice a2 n2 c2, .slice a3 n3 c3, .string s4, .slice a4 n4 c4] 27)).cell? ⟨w.heap.size, 4, none⟩ = some (.string s4) := by rw [cell_of_row _ _ 4 _ _ (0, 0) (heap_alloc_new w _)]; rfl
  have q5 : (w.alloc (.cells #[.string s0, .slice a1 n1 c1, .slice a2 n2 c2, .slice a3 n3 c3, .string s4, .slice a4 n4 c4] 27)).cell? ⟨w.heap.size, 5, none⟩ = some (.slice a4 n4 c4) := by rw [cell_of_row _ _ 5 _ _ (0, 0) (heap_alloc_new w _)]; rfl
  have hW0 : w.heap.size < (w.alloc (.cells #[.string s0, .slice a1 n1 c1, .slice a2 n2 c2, .slice a3 n3 c3, .string s4, .slice a4 n4 c4] 27)).heap.size := by rw [World.size_alloc]; exact Nat.lt_succ_self _
  have C0 : Hid (∀ W', Later (w.alloc (.cells #[.string s0, .slice a1 n1 c1, .slice a2 n2 c2, .slice a3 n3 c3, .string s4, .slice a4 n4 c4] 27)) W' → W'.cell? ⟨w.heap.size, 0, none⟩ = some (.string s0) ∧ W'.cell? ⟨w.heap.size, 1, none⟩ = some (.slice a1 n1 c1) ∧ W'.cell? ⟨w.heap.size, 2, none⟩ = some (.slice a2 n2 c2) ∧ W'.cell? ⟨w.heap.size, 3, none⟩ = some (.slice a3 n3 c3) ∧ W'.cell? ⟨w.heap.size, 4, none⟩ = some (.string s4) ∧ W'.cell? ⟨w.heap.size, 5, none⟩ = some (.slice a4 n4 c4)) := Lib.hid (fun W' q => ⟨by rw [q.cell (p := ⟨w.heap.size, 0, none⟩) hW0]; exact q0, by rw [q.cell (p := ⟨w.heap.size, 1, none⟩) hW0]; exact q1, by rw [q.cell (p := ⟨w.heap.size, 2, none⟩) hW0]; exact q2, by rw [q.cell (p := ⟨w.heap.size, 3, none⟩) hW0]; exact q3, by rw [q.cell (p := ⟨w.heap.size, 4, none⟩) hW0]; exact q4, by rw [q.cell (p := ⟨w.heap.size, 5, none⟩) hW0]; exact q5⟩)
  have A0 : Hid (Later w (w.alloc (.cells #[.string s0, .slice a1 n1 c1, .slice a2 n2 c2, .slice a3 n3 c3, .string s4, .slice a4 n4 c4] 27))) := Lib.hid ((Later.refl _).alloc _)
  clear hW0
  go_enter Tryd.func92, Tryd.ntmps92
  go_wp2_with fail
  generalize (w.alloc (.cells #[.string s0, .slice a1 n1 c1, .slice a2 n2 c2, .slice a3 n3 c3, .string s4, .slice a4 n4 c4] 27)) = W0 at C0 A0 q0 q1 q2 q3 q4 q5 ⊢
  have RL := Lib.hid (Later.refl W0)
  have HV : Hid (ru3 p = allIn (p.vrs ++ p.outs) (tgs p.lns)) := Lib.hid rfl
  have HAS := Lib.hid (fun b a n c W h1 h2 => i_hasAll b (p.vrs ++ p.outs) a n c (tgs p.lns) W h1 h2)
  generalize allIn (p.vrs ++ p.outs) (tgs p.lns) = V at HAS HV
  go_region_held3 (fun W' => W'.cell? ⟨w.heap.size, 0, none⟩ = some (.string s0) ∧ W'.cell? ⟨w.heap.size, 1, none⟩ = some (.slice a1 n1 c1) ∧ W'.cell? ⟨w.heap.size, 2, none⟩ = some (.slice a2 n2 c2) ∧ W'.cell? ⟨w.heap.size, 3, none⟩ = some (.slice a3 n3 c3) ∧ W'.cell? ⟨w.heap.size, 4, none⟩ = some (.string s4) ∧ W'.cell? ⟨w.heap.size, 5, none⟩ = some (.slice a4 n4 c4)) (exact C0.out _ (by repeat (first | (with_reducible exact Later.refl _) | (with_reducible exact Hid.out (by assumption)) | (with_reducible refine Later.alloc ?_ _) | (with_reducible refine Later.setCell ?_ (by simp; omega) _) | (with_reducible refine Later.setCell ?_ (by simp) _) | (with_reducible refine Later.drewN ?_ _) | (with_reducible refine Later.drew ?_) | (with_reducible refine Later.trans ?_ (Hid.out (by assumption))))))
    (first
      | (go_at_call 119; refine (AC.out _ (by repeat (first | (with_reducible exact Later.refl _) | (with_reducible exact Hid.out (by assumption)) | (with_reducible refine Later.alloc ?_ _) | (with_reducible refine Later.setCell ?_ (by simp; omega) _) | (with_reducible refine Later.setCell ?_ (by simp) _) | (with_reducible refine Later.drewN ?_ _) | (with_reducible refine Later.drew ?_) | (with_reducible refine Later.trans ?_ (Hid.out (by assumption)))))).mono ?_; rintro e w1 ⟨u1, m1, k1, rfl, hn, hs, hb⟩; have N1 := Lib.hid hn; have S1 := Lib.hid hs; have H1 := Lib.hid hb; clear hn hs hb)
      | (go_at_call 59; refine (TG.out _ (by repeat (first | (with_reducible exact Later.refl _) | (with_reducible exact Hid.out (by assumption)) | (with_reducible refine Later.alloc ?_ _) | (with_reducible refine Later.setCell ?_ (by simp; omega) _) | (with_reducible refine Later.setCell ?_ (by simp) _) | (with_reducible refine Later.drewN ?_ _) | (with_reducible refine Later.drew ?_) | (with_reducible refine Later.trans ?_ (Hid.out (by assumption)))))).mono ?_; rintro e w3 ⟨u3, m3, k3, rfl, hn, hs, hb⟩; have N3 := Lib.hid hn; have S3 := Lib.hid hs; have H3 := Lib.hid hb; clear hn hs hb)
      | (go_at_call 76; refine (nameSet1 u1 _ k1 (p.vrs ++ p.outs) _ _ (S1.out.later (by repeat (first | (with_reducible exact Later.refl _) | (with_reducible exact Hid.out (by assumption)) | (with_reducible refine Later.alloc ?_ _) | (with_reducible refine Later.setCell ?_ (by simp; omega) _) | (with_reducible refine Later.setCell ?_ (by simp) _) | (with_reducible refine Later.drewN ?_ _) | (with_reducible refine Later.drew ?_) | (with_reducible refine Later.trans ?_ (Hid.out (by assumption)))))) N1.out).mono ?_; rintro e w2 ⟨b2, rfl, hm, hb⟩; have M2 := Lib.hid hm; have H2 := Lib.hid hb; clear hm hb)
      | (go_at_call 120; refine (HAS.out b2 u3 _ k3 _ (M2.out.later (by repeat (first | (with_reducible exact Later.refl _) | (with_reducible exact Hid.out (by assumption)) | (with_reducible refine Later.alloc ?_ _) | (with_reducible refine Later.setCell ?_ (by simp; omega) _) | (with_reducible refine Later.setCell ?_ (by simp) _) | (with_reducible refine Later.drewN ?_ _) | (with_reducible refine Later.drew ?_) | (with_reducible refine Later.trans ?_ (Hid.out (by assumption)))))) (S3.out.later (by repeat (first | (with_reducible exact Later.refl _) | (with_reducible exact Hid.out (by assumption)) | (with_reducible refine Later.alloc ?_ _) | (with_reducible refine Later.setCell ?_ (by simp; omega) _) | (with_reducible refine Later.setCell ?_ (by simp) _) | (with_reducible refine Later.drewN ?_ _) | (with_reducible refine Later.drew ?_) | (with_reducible refine Later.trans ?_ (Hid.out (by assumption))))))).mono ?_; rintro e w' ⟨rfl, rfl⟩))
  all_goals
    go_wp2
    go_ret
    exact ⟨by rw [HV.out]; rfl, (by repeat (first | (with_reducible exact Later.refl _) | (with_reducible exact Hid.out (by assumption)) | (with_reducible refine Later.alloc ?_ _) | (with_reducible refine Later.setCell ?_ (by simp; omega) _) | (with_reducible refine Later.setCell ?_ (by simp) _) | (with_reducible refine Later.drewN ?_ _) | (with_reducible refine Later.drew ?_) | (with_reducible refine Later.trans ?_ (Hid.out (by assumption)))))⟩
theorem i_assignsAll (base : Nat) (v : Value) (p : Prg) (w : World) (hp : PgC base w v p) (hb : Wb p) : Calls Tryd.prog 94 #[v] w fun e w' => e = .returned (.bool (ru5 p)) ∧ Later w w' := by
  have MT := mth_of base v p w hp hb
  have DC := Lib.hid MT.dc; have AC := Lib.hid MT.ac; have RC := Lib.hid MT.rc; have TG := Lib.hid MT.tg; have US := Lib.hid MT.us
  obtain ⟨b1, b2, b3, b4, b5, b6, _⟩ := hb
  clear MT
  obtain ⟨a1, c1, a2, c2, a3, c3, a4, c4, rfl, _, _, _, _, _, _⟩ := hp.pgv
  clear hp b1 b2 b3 b4 b5 b6
  obtain ⟨s0, hs0⟩ : ∃ q, q = tx p.nm := ⟨_, rfl⟩
  obtain ⟨s4, hs4⟩ : ∃ q, q = tx p.grd := ⟨_, rfl⟩
  obtain ⟨n1, hn1⟩ : ∃ q, q = p.ins.length := ⟨_, rfl⟩
  obtain ⟨n2, hn2⟩ : ∃ q, q = p.vrs.length := ⟨_, rfl⟩
  obtain ⟨n3, hn3⟩ : ∃ q, q = p.outs.length := ⟨_, rfl⟩
  obtain ⟨n4, hn4⟩ : ∃ q, q = p.lns.length := ⟨_, rfl⟩
  simp only [← hs0, ← hs4, ← hn1, ← hn2, ← hn3, ← hn4] at DC AC RC TG US ⊢
  clear hs0 hs4 hn1 hn2 hn3 hn4
  have q0 : (w.alloc (.cells #[.string s0, .slice a1 n1 c1, .slice a2 n2 c2, .slice a3 n3 c3, .string s4, .slice a4 n4 c4] 27)).cell? ⟨w.heap.size, 0, none⟩ = some (.string s0) := by rw [cell_of_row _ _ 0 _ _ (0, 0) (heap_alloc_new w _)]; rfl
  have q1 : (w.alloc (.cells #[.string s0, .slice a1 n1 c1, .slice a2 n2 c2, .slice a3 n3 c3, .string s4, .slice a4 n4 c4] 27)).cell? ⟨w.heap.size, 1, none⟩ = some (.slice a1 n1 c1) := by rw [cell_of_row _ _ 1 _ _ (0, 0) (heap_alloc_new w _)]; rfl
  have q2 : (w.alloc (.cells #[.string s0, .slice a1 n1 c1, .slice a2 n2 c2, .slice a3 n3 c3, .string s4, .slice a4 n4 c4] 27)).cell? ⟨w.heap.size, 2, none⟩ = some (.slice a2 n2 c2) := by rw [cell_of_row _ _ 2 _ _ (0, 0) (heap_alloc_new w _)]; rfl
  have q3 : (w.alloc (.cells #[.string s0, .slice a1 n1 c1, .slice a2 n2 c2, .slice a3 n3 c3, .string s4, .slice a4 n4 c4] 27)).cell? ⟨w.heap.size, 3, none⟩ = some (.slice a3 n3 c3) := by rw [cell_of_row _ _ 3 _ _ (0, 0) (heap_alloc_new w _)]; rfl
  have q4 : (w.alloc (.cells #[.string s0, .slice a1 n1 c1, .slice a2 n2 c2, .slice a3 n3 c3, .string s4, .slice a4 n4 c4] 27)).cell? ⟨w.heap.size, 4, none⟩ = some (.string s4) := by rw [cell_of_row _ _ 4 _ _ (0, 0) (heap_alloc_new w _)]; rfl
  have q5 : (w.alloc (.cells #[.string s0, .slice a1 n1 c1, .slice a2 n2 c2, .slice a3 n3 c3, .string s4, .slice a4 n4 c4] 27)).cell? ⟨w.heap.size, 5, none⟩ = some (.slice a4 n4 c4) := by rw [cell_of_row _ _ 5 _ _ (0, 0) (heap_alloc_new w _)]; rfl
  have hW0 : w.heap.size < (w.alloc (.cells #[.string s0, .slice a1 n1 c1, .slice a2 n2 c2, .slice a3 n3 c3, .string s4, .slice a4 n4 c4] 27)).heap.size := by rw [World.size_alloc]; exact Nat.lt_succ_self _
  have C0 : Hid (∀ W', Later (w.alloc (.cells #[.string s0, .slice a1 n1 c1, .slice a2 n2 c2, .slice a3 n3 c3, .string s4, .slice a4 n4 c4] 27)) W' → W'.cell? ⟨w.heap.size, 0, none⟩ = some (.string s0) ∧ W'.cell? ⟨w.heap.size, 1, none⟩ = some (.slice a1 n1 c1) ∧ W'.cell? ⟨w.heap.size, 2, none⟩ = some (.slice a2 n2 c2) ∧ W'.cell? ⟨w.heap.size, 3, none⟩ = some (.slice a3 n3 c3) ∧ W'.cell? ⟨w.heap.size, 4, none⟩ = some (.string s4) ∧ W'.cell? ⟨w.heap.size, 5, none⟩ = some (.slice a4 n4 c4)) := Lib.hid (fun W' q => ⟨by rw [q.cell (p := ⟨w.heap.size, 0, none⟩) hW0]; exact q0, by rw [q.cell (p := ⟨w.heap.size, 1, none⟩) hW0]; exact q1, by rw [q.cell (p := ⟨w.heap.size, 2, none⟩) hW0]; exact q2, by rw [q.cell (p := ⟨w.heap.size, 3, none⟩) hW0]; exact q3, by rw [q.cell (p := ⟨w.heap.size, 4, none⟩) hW0]; exact q4, by rw [q.cell (p := ⟨w.heap.size, 5, none⟩) hW0]; exact q5⟩)
  have A0 : Hid (Later w (w.alloc (.cells #[.string s0, .slice a1 n1 c1, .slice a2 n2 c2, .slice a3 n3 c3, .string s4, .slice a4 n4 c4] 27))) := Lib.hid ((Later.refl _).alloc _)
  clear hW0
  go_enter Tryd.func94, Tryd.ntmps94
  go_wp2_with fail
  generalize (w.alloc (.cells #[.string s0, .slice a1 n1 c1, .slice a2 n2 c2, .slice a3 n3 c3, .string s4, .slice a4 n4 c4] 27)) = W0 at C0 A0 q0 q1 q2 q3 q4 q5 ⊢
  have RL := Lib.hid (Later.refl W0)
  have HV : Hid (ru5 p = allIn (tgs p.lns) (p.vrs ++ p.outs)) := Lib.hid rfl
  have HAS := Lib.hid (fun b a n c W h1 h2 => i_hasAll b (tgs p.lns) a n c (p.vrs ++ p.outs) W h1 h2)
  generalize allIn (tgs p.lns) (p.vrs ++ p.outs) = V at HAS HV
  go_region_held3 (fun W' => W'.cell? ⟨w.heap.size, 0, none⟩ = some (.string s0) ∧ W'.cell? ⟨w.heap.size, 1, none⟩ = some (.slice a1 n1 c1) ∧ W'.cell? ⟨w.heap.size, 2, none⟩ = some (.slice a2 n2 c2) ∧ W'.cell? ⟨w.heap.size, 3, none⟩ = some (.slice a3 n3 c3) ∧ W'.cell? ⟨w.heap.size, 4, none⟩ = some (.string s4) ∧ W'.cell? ⟨w.heap.size, 5, none⟩ = some (.slice a4 n4 c4)) (exact C0.out _ (by repeat (first | (with_reducible exact Later.refl _) | (with_reducible exact Hid.out (by assumption)) | (with_reducible refine Later.alloc ?_ _) | (with_reducible refine Later.setCell ?_ (by simp; omega) _) | (with_reducible refine Later.setCell ?_ (by simp) _) | (with_reducible refine Later.drewN ?_ _) | (with_reducible refine Later.drew ?_) | (with_reducible refine Later.trans ?_ (Hid.out (by assumption))))))
    (first
      | (go_at_call 59; refine (TG.out _ (by repeat (first | (with_reducible exact Later.refl _) | (with_reducible exact Hid.out (by assumption)) | (with_reducible refine Later.alloc ?_ _) | (with_reducible refine Later.setCell ?_ (by simp; omega) _) | (with_reducible refine Later.setCell ?_ (by simp) _) | (with_reducible refine Later.drewN ?_ _) | (with_reducible refine Later.drew ?_) | (with_reducible refine Later.trans ?_ (Hid.out (by assumption)))))).mono ?_; rintro e w1 ⟨u1, m1, k1, rfl, hn, hs, hb⟩; have N1 := Lib.hid hn; have S1 := Lib.hid hs; have H1 := Lib.hid hb; clear hn hs hb)
      | (go_at_call 119; refine (AC.out _ (by repeat (first | (with_reducible exact Later.refl _) | (with_reducible exact Hid.out (by assumption)) | (with_reducible refine Later.alloc ?_ _) | (with_reducible refine Later.setCell ?_ (by simp; omega) _) | (with_reducible refine Later.setCell ?_ (by simp) _) | (with_reducible refine Later.drewN ?_ _) | (with_reducible refine Later.drew ?_) | (with_reducible refine Later.trans ?_ (Hid.out (by assumption)))))).mono ?_; rintro e w3 ⟨u3, m3, k3, rfl, hn, hs, hb⟩; have N3 := Lib.hid hn; have S3 := Lib.hid hs; have H3 := Lib.hid hb; clear hn hs hb)
      | (go_at_call 76; refine (nameSet1 u1 _ k1 (tgs p.lns) _ _ (S1.out.later (by repeat (first | (with_reducible exact Later.refl _) | (with_reducible exact Hid.out (by assumption)) | (with_reducible refine Later.alloc ?_ _) | (with_reducible refine Later.setCell ?_ (by simp; omega) _) | (with_reducible refine Later.setCell ?_ (by simp) _) | (with_reducible refine Later.drewN ?_ _) | (with_reducible refine Later.drew ?_) | (with_reducible refine Later.trans ?_ (Hid.out (by assumption)))))) N1.out).mono ?_; rintro e w2 ⟨b2, rfl, hm, hb⟩; have M2 := Lib.hid hm; have H2 := Lib.hid hb; clear hm hb)
      | (go_at_call 120; refine (HAS.out b2 u3 _ k3 _ (M2.out.later (by repeat (first | (with_reducible exact Later.refl _) | (with_reducible exact Hid.out (by assumption)) | (with_reducible refine Later.alloc ?_ _) | (with_reducible refine Later.setCell ?_ (by simp; omega) _) | (with_reducible refine Later.setCell ?_ (by simp) _) | (with_reducible refine Later.drewN ?_ _) | (with_reducible refine Later.drew ?_) | (with_reducible refine Later.trans ?_ (Hid.out (by assumption)))))) (S3.out.later (by repeat (first | (with_reducible exact Later.refl _) | (with_reducible exact Hid.out (by assumption)) | (with_reducible refine Later.alloc ?_ _) | (with_reducible refine Later.setCell ?_ (by simp; omega) _) | (with_reducible refine Later.setCell ?_ (by simp) _) | (with_reducible refine Later.drewN ?_ _) | (with_reducible refine Later.drew ?_) | (with_reducible refine Later.trans ?_ (Hid.out (by assumption))))))).mono ?_; rintro e w' ⟨rfl, rfl⟩))
  all_goals
    go_wp2
    go_ret
    exact ⟨by rw [HV.out]; rfl, (by repeat (first | (with_reducible exact Later.refl _) | (with_reducible exact Hid.out (by assumption)) | (with_reducible refine Later.alloc ?_ _) | (with_reducible refine Later.setCell ?_ (by simp; omega) _) | (with_reducible refine Later.setCell ?_ (by simp) _) | (with_reducible refine Later.drewN ?_ _) | (with_reducible refine Later.drew ?_) | (with_reducible refine Later.trans ?_ (Hid.out (by assumption)))))⟩
theorem i_usesReadableNames (base : Nat) (v : Value) (p : Prg) (w : World) (hp : PgC base w v p) (hb : Wb p) : Calls Tryd.prog 95 #[v] w fun e w' => e = .returned (.bool (ru6 p)) ∧ Later w w' := by
  have MT := mth_of base v p w hp hb
  have DC := Lib.hid MT.dc; have AC := Lib.hid MT.ac; have RC := Lib.hid MT.rc; have TG := Lib.hid MT.tg; have US := Lib.hid MT.us
  obtain ⟨b1, b2, b3, b4, b5, b6, _⟩ := hb
  clear MT
  obtain ⟨a1, c1, a2, c2, a3, c3, a4, c4, rfl, _, _, _, _, _, _⟩ := hp.pgv
  clear hp b1 b2 b3 b4 b5 b6
  obtain ⟨s0, hs0⟩ : ∃ q, q = tx p.nm := ⟨_, rfl⟩
  obtain ⟨s4, hs4⟩ : ∃ q, q = tx p.grd := ⟨_, rfl⟩
  obtain ⟨n1, hn1⟩ : ∃ q, q = p.ins.length := ⟨_, rfl⟩
  obtain ⟨n2, hn2⟩ : ∃ q, q = p.vrs.length := ⟨_, rfl⟩
  obtain ⟨n3, hn3⟩ : ∃ q, q = p.outs.length := ⟨_, rfl⟩
  obtain ⟨n4, hn4⟩ : ∃ q, q = p.lns.length := ⟨_, rfl⟩
  simp only [← hs0, ← hs4, ← hn1, ← hn2, ← hn3, ← hn4] at DC AC RC TG US ⊢
  clear hs0 hs4 hn1 hn2 hn3 hn4
  have q0 : (w.alloc (.cells #[.string s0, .slice a1 n1 c1, .slice a2 n2 c2, .slice a3 n3 c3, .string s4, .slice a4 n4 c4] 27)).cell? ⟨w.heap.size, 0, none⟩ = some (.string s0) := by rw [cell_of_row _ _ 0 _ _ (0, 0) (heap_alloc_new w _)]; rfl
  have q1 : (w.alloc (.cells #[.string s0, .slice a1 n1 c1, .slice a2 n2 c2, .slice a3 n3 c3, .string s4, .slice a4 n4 c4] 27)).cell? ⟨w.heap.size, 1, none⟩ = some (.slice a1 n1 c1) := by rw [cell_of_row _ _ 1 _ _ (0, 0) (heap_alloc_new w _)]; rfl
  have q2 : (w.alloc (.cells #[.string s0, .slice a1 n1 c1, .slice a2 n2 c2, .slice a3 n3 c3, .string s4, .slice a4 n4 c4] 27)).cell? ⟨w.heap.size, 2, none⟩ = some (.slice a2 n2 c2) := by rw [cell_of_row _ _ 2 _ _ (0, 0) (heap_alloc_new w _)]; rfl
  have q3 : (w.alloc (.cells #[.string s0, .slice a1 n1 c1, .slice a2 n2 c2, .slice a3 n3 c3, .string s4, .slice a4 n4 c4] 27)).cell? ⟨w.heap.size, 3, none⟩ = some (.slice a3 n3 c3) := by rw [cell_of_row _ _ 3 _ _ (0, 0) (heap_alloc_new w _)]; rfl
  have q4 : (w.alloc (.cells #[.string s0, .slice a1 n1 c1, .slice a2 n2 c2, .slice a3 n3 c3, .string s4, .slice a4 n4 c4] 27)).cell? ⟨w.heap.size, 4, none⟩ = some (.string s4) := by rw [cell_of_row _ _ 4 _ _ (0, 0) (heap_alloc_new w _)]; rfl
  have q5 : (w.alloc (.cells #[.string s0, .slice a1 n1 c1, .slice a2 n2 c2, .slice a3 n3 c3, .string s4, .slice a4 n4 c4] 27)).cell? ⟨w.heap.size, 5, none⟩ = some (.slice a4 n4 c4) := by rw [cell_of_row _ _ 5 _ _ (0, 0) (heap_alloc_new w _)]; rfl
  have hW0 : w.heap.size < (w.alloc (.cells #[.string s0, .slice a1 n1 c1, .slice a2 n2 c2, .slice a3 n3 c3, .string s4, .slice a4 n4 c4] 27)).heap.size := by rw [World.size_alloc]; exact Nat.lt_succ_self _
  have C0 : Hid (∀ W', Later (w.alloc (.cells #[.string s0, .slice a1 n1 c1, .slice a2 n2 c2, .slice a3 n3 c3, .string s4, .slice a4 n4 c4] 27)) W' → W'.cell? ⟨w.heap.size, 0, none⟩ = some (.string s0) ∧ W'.cell? ⟨w.heap.size, 1, none⟩ = some (.slice a1 n1 c1) ∧ W'.cell? ⟨w.heap.size, 2, none⟩ = some (.slice a2 n2 c2) ∧ W'.cell? ⟨w.heap.size, 3, none⟩ = some (.slice a3 n3 c3) ∧ W'.cell? ⟨w.heap.size, 4, none⟩ = some (.string s4) ∧ W'.cell? ⟨w.heap.size, 5, none⟩ = some (.slice a4 n4 c4)) := Lib.hid (fun W' q => ⟨by rw [q.cell (p := ⟨w.heap.size, 0, none⟩) hW0]; exact q0, by rw [q.cell (p := ⟨w.heap.size, 1, none⟩) hW0]; exact q1, by rw [q.cell (p := ⟨w.heap.size, 2, none⟩) hW0]; exact q2, by rw [q.cell (p := ⟨w.heap.size, 3, none⟩) hW0]; exact q3, by rw [q.cell (p := ⟨w.heap.size, 4, none⟩) hW0]; exact q4, by rw [q.cell (p := ⟨w.heap.size, 5, none⟩) hW0]; exact q5⟩)
  have A0 : Hid (Later w (w.alloc (.cells #[.string s0, .slice a1 n1 c1, .slice a2 n2 c2, .slice a3 n3 c3, .string s4, .slice a4 n4 c4] 27))) := Lib.hid ((Later.refl _).alloc _)
  clear hW0
  go_enter Tryd.func95, Tryd.ntmps95
  go_wp2_with fail
  generalize (w.alloc (.cells #[.string s0, .slice a1 n1 c1, .slice a2 n2 c2, .slice a3 n3 c3, .string s4, .slice a4 n4 c4] 27)) = W0 at C0 A0 q0 q1 q2 q3 q4 q5 ⊢
  have RL := Lib.hid (Later.refl W0)
  have HV : Hid (ru6 p = allIn (p.ins ++ p.vrs) (nmV p.lns)) := Lib.hid rfl
  have HAS := Lib.hid (fun b a n c W h1 h2 => i_hasAll b (p.ins ++ p.vrs) a n c (nmV p.lns) W h1 h2)
  generalize allIn (p.ins ++ p.vrs) (nmV p.lns) = V at HAS HV
  go_region_held3 (fun W' => W'.cell? ⟨w.heap.size, 0, none⟩ = some (.string s0) ∧ W'.cell? ⟨w.heap.size, 1, none⟩ = some (.slice a1 n1 c1) ∧ W'.cell? ⟨w.heap.size, 2, none⟩ = some (.slice a2 n2 c2) ∧ W'.cell? ⟨w.heap.size, 3, none⟩ = some (.slice a3 n3 c3) ∧ W'.cell? ⟨w.heap.size, 4, none⟩ = some (.string s4) ∧ W'.cell? ⟨w.heap.size, 5, none⟩ = some (.slice a4 n4 c4)) (exact C0.out _ (by repeat (first | (with_reducible exact Later.refl _) | (with_reducible exact Hid.out (by assumption)) | (with_reducible refine Later.alloc ?_ _) | (with_reducible refine Later.setCell ?_ (by simp; omega) _) | (with_reducible refine Later.setCell ?_ (by simp) _) | (with_reducible refine Later.drewN ?_ _) | (with_reducible refine Later.drew ?_) | (with_reducible refine Later.trans ?_ (Hid.out (by assumption))))))
    (first
      | (go_at_call 118; refine (RC.out _ (by repeat (first | (with_reducible exact Later.refl _) | (with_reducible exact Hid.out (by assumption)) | (with_reducible refine Later.alloc ?_ _) | (with_reducible refine Later.setCell ?_ (by simp; omega) _) | (with_reducible refine Later.setCell ?_ (by simp) _) | (with_reducible refine Later.drewN ?_ _) | (with_reducible refine Later.drew ?_) | (with_reducible refine Later.trans ?_ (Hid.out (by assumption)))))).mono ?_; rintro e w2 ⟨b2, rfl, hm, hb⟩; have M2 := Lib.hid hm; have H2 := Lib.hid hb; clear hm hb)
      | (go_at_call 121; refine (US.out _ (by repeat (first | (with_reducible exact Later.refl _) | (with_reducible exact Hid.out (by assumption)) | (with_reducible refine Later.alloc ?_ _) | (with_reducible refine Later.setCell ?_ (by simp; omega) _) | (with_reducible refine Later.setCell ?_ (by simp) _) | (with_reducible refine Later.drewN ?_ _) | (with_reducible refine Later.drew ?_) | (with_reducible refine Later.trans ?_ (Hid.out (by assumption)))))).mono ?_; rintro e w3 ⟨u3, m3, k3, rfl, hn, hs, hb⟩; have N3 := Lib.hid hn; have S3 := Lib.hid hs; have H3 := Lib.hid hb; clear hn hs hb)
      | (go_at_call 120; refine (HAS.out b2 u3 _ k3 _ (M2.out.later (by repeat (first | (with_reducible exact Later.refl _) | (with_reducible exact Hid.out (by assumption)) | (with_reducible refine Later.alloc ?_ _) | (with_reducible refine Later.setCell ?_ (by simp; omega) _) | (with_reducible refine Later.setCell ?_ (by simp) _) | (with_reducible refine Later.drewN ?_ _) | (with_reducible refine Later.drew ?_) | (with_reducible refine Later.trans ?_ (Hid.out (by assumption)))))) (S3.out.later (by repeat (first | (with_reducible exact Later.refl _) | (with_reducible exact Hid.out (by assumption)) | (with_reducible refine Later.alloc ?_ _) | (with_reducible refine Later.setCell ?_ (by simp; omega) _) | (with_reducible refine Later.setCell ?_ (by simp) _) | (with_reducible refine Later.drewN ?_ _) | (with_reducible refine Later.drew ?_) | (with_reducible refine Later.trans ?_ (Hid.out (by assumption))))))).mono ?_; rintro e w' ⟨rfl, rfl⟩))
  all_goals
    go_wp2
    go_ret
    exact ⟨by rw [HV.out]; rfl, (by repeat (first | (with_reducible exact Later.refl _) | (with_reducible exact Hid.out (by assumption)) | (with_reducible refine Later.alloc ?_ _) | (with_reducible refine Later.setCell ?_ (by simp; omega) _) | (with_reducible refine Later.setCell ?_ (by simp) _) | (with_reducible refine Later.drewN ?_ _) | (with_reducible refine Later.drew ?_) | (with_reducible refine Later.trans ?_ (Hid.out (by assumption)))))⟩
theorem i_hasReadableGuard (base : Nat) (v : Value) (p : Prg) (w : World) (hp : PgC base w v p) (hb : Wb p) : Calls Tryd.prog 91 #[v] w fun e w' => e = .returned (.bool (ru2 p)) ∧ Later w w' := by
  have MT := mth_of base v p w hp hb
  have DC := Lib.hid MT.dc; have AC := Lib.hid MT.ac; have RC := Lib.hid MT.rc; have TG := Lib.hid MT.tg; have US := Lib.hid MT.us
  obtain ⟨b1, b2, b3, b4, b5, b6, _⟩ := hb
  have EG : ((tx p.grd).toList.isEmpty) = decide (p.grd = []) := by
    rw [Lib.toList_data]
    show p.grd.isEmpty = _
    cases p.grd <;> simp
  have KG := Lib.hid (keyN p.grd (by obtain ⟨_, _, _, _, _, _, _, _, _, _, _, _, _, _, h⟩ := hp.pgv; exact h))
  clear MT
  obtain ⟨a1, c1, a2, c2, a3, c3, a4, c4, rfl, _, _, _, _, _, _⟩ := hp.pgv
  clear hp b1 b2 b3 b4 b5 b6
  obtain ⟨s0, hs0⟩ : ∃ q, q = tx p.nm := ⟨_, rfl⟩
  obtain ⟨s4, hs4⟩ : ∃ q, q = tx p.grd := ⟨_, rfl⟩
  obtain ⟨n1, hn1⟩ : ∃ q, q = p.ins.length := ⟨_, rfl⟩
  obtain ⟨n2, hn2⟩ : ∃ q, q = p.vrs.length := ⟨_, rfl⟩
  obtain ⟨n3, hn3⟩ : ∃ q, q = p.outs.length := ⟨_, rfl⟩
  obtain ⟨n4, hn4⟩ : ∃ q, q = p.lns.length := ⟨_, rfl⟩
  simp only [← hs0, ← hs4, ← hn1, ← hn2, ← hn3, ← hn4] at DC AC RC TG US EG KG ⊢
  clear hs0 hs4 hn1 hn2 hn3 hn4
  have q0 : (w.alloc (.cells #[.string s0, .slice a1 n1 c1, .slice a2 n2 c2, .slice a3 n3 c3, .string s4, .slice a4 n4 c4] 27)).cell? ⟨w.heap.size, 0, none⟩ = some (.string s0) := by rw [cell_of_row _ _ 0 _ _ (0, 0) (heap_alloc_new w _)]; rfl
  have q1 : (w.alloc (.cells #[.string s0, .slice a1 n1 c1, .slice a2 n2 c2, .slice a3 n3 c3, .string s4, .slice a4 n4 c4] 27)).cell? ⟨w.heap.size, 1, none⟩ = some (.slice a1 n1 c1) := by rw [cell_of_row _ _ 1 _ _ (0, 0) (heap_alloc_new w _)]; rfl
  have q2 : (w.alloc (.cells #[.string s0, .slice a1 n1 c1, .slice a2 n2 c2, .slice a3 n3 c3, .string s4, .slice a4 n4 c4] 27)).cell? ⟨w.heap.size, 2, none⟩ = some (.slice a2 n2 c2) := by rw [cell_of_row _ _ 2 _ _ (0, 0) (heap_alloc_new w _)]; rfl
  have q3 : (w.alloc (.cells #[.string s0, .slice a1 n1 c1, .slice a2 n2 c2, .slice a3 n3 c3, .string s4, .slice a4 n4 c4] 27)).cell? ⟨w.heap.size, 3, none⟩ = some (.slice a3 n3 c3) := by rw [cell_of_row _ _ 3 _ _ (0, 0) (heap_alloc_new w _)]; rfl
  have q4 : (w.alloc (.cells #[.string s0, .slice a1 n1 c1, .slice a2 n2 c2, .slice a3 n3 c3, .string s4, .slice a4 n4 c4] 27)).cell? ⟨w.heap.size, 4, none⟩ = some (.string s4) := by rw [cell_of_row _ _ 4 _ _ (0, 0) (heap_alloc_new w _)]; rfl
  have q5 : (w.alloc (.cells #[.string s0, .slice a1 n1 c1, .slice a2 n2 c2, .slice a3 n3 c3, .string s4, .slice a4 n4 c4] 27)).cell? ⟨w.heap.size, 5, none⟩ = some (.slice a4 n4 c4) := by rw [cell_of_row _ _ 5 _ _ (0, 0) (heap_alloc_new w _)]; rfl
  have hW0 : w.heap.size < (w.alloc (.cells #[.string s0, .slice a1 n1 c1, .slice a2 n2 c2, .slice a3 n3 c3, .string s4, .slice a4 n4 c4] 27)).heap.size := by rw [World.size_alloc]; exact Nat.lt_succ_self _
  have C0 : Hid (∀ W', Later (w.alloc (.cells #[.string s0, .slice a1 n1 c1, .slice a2 n2 c2, .slice a3 n3 c3, .string s4, .slice a4 n4 c4] 27)) W' → W'.cell? ⟨w.heap.size, 0, none⟩ = some (.string s0) ∧ W'.cell? ⟨w.heap.size, 1, none⟩ = some (.slice a1 n1 c1) ∧ W'.cell? ⟨w.heap.size, 2, none⟩ = some (.slice a2 n2 c2) ∧ W'.cell? ⟨w.heap.size, 3, none⟩ = some (.slice a3 n3 c3) ∧ W'.cell? ⟨w.heap.size, 4, none⟩ = some (.string s4) ∧ W'.cell? ⟨w.heap.size, 5, none⟩ = some (.slice a4 n4 c4)) := Lib.hid (fun W' q => ⟨by rw [q.cell (p := ⟨w.heap.size, 0, none⟩) hW0]; exact q0, by rw [q.cell (p := ⟨w.heap.size, 1, none⟩) hW0]; exact q1, by rw [q.cell (p := ⟨w.heap.size, 2, none⟩) hW0]; exact q2, by rw [q.cell (p := ⟨w.heap.size, 3, none⟩) hW0]; exact q3, by rw [q.cell (p := ⟨w.heap.size, 4, none⟩) hW0]; exact q4, by rw [q.cell (p := ⟨w.heap.size, 5, none⟩) hW0]; exact q5⟩)
  have A0 : Hid (Later w (w.alloc (.cells #[.string s0, .slice a1 n1 c1, .slice a2 n2 c2, .slice a3 n3 c3, .string s4, .slice a4 n4 c4] 27))) := Lib.hid ((Later.refl _).alloc _)
  clear hW0
  have HV : Hid (ru2 p = (decide (p.grd = []) || decide (p.grd ∈ p.ins ++ p.vrs))) := Lib.hid rfl
  have hat := nsD_at (H := Unit) (p.ins ++ p.vrs) p.grd
  generalize decide (p.grd ∈ p.ins ++ p.vrs) = g1 at hat HV
  generalize decide (p.grd = []) = g0 at EG HV
  cases g0
  · go_enter Tryd.func91, Tryd.ntmps91
    go_wp2_with fail
    generalize (w.alloc (.cells #[.string s0, .slice a1 n1 c1, .slice a2 n2 c2, .slice a3 n3 c3, .string s4, .slice a4 n4 c4] 27)) = W0 at C0 A0 q0 q1 q2 q3 q4 q5 ⊢
    have RL := Lib.hid (Later.refl W0)
    go_region_held3 (fun W' => W'.cell? ⟨w.heap.size, 0, none⟩ = some (.string s0) ∧ W'.cell? ⟨w.heap.size, 1, none⟩ = some (.slice a1 n1 c1) ∧ W'.cell? ⟨w.heap.size, 2, none⟩ = some (.slice a2 n2 c2) ∧ W'.cell? ⟨w.heap.size, 3, none⟩ = some (.slice a3 n3 c3) ∧ W'.cell? ⟨w.heap.size, 4, none⟩ = some (.string s4) ∧ W'.cell? ⟨w.heap.size, 5, none⟩ = some (.slice a4 n4 c4)) (exact C0.out _ (by repeat (first | (with_reducible exact Later.refl _) | (with_reducible exact Hid.out (by assumption)) | (with_reducible refine Later.alloc ?_ _) | (with_reducible refine Later.setCell ?_ (by simp; omega) _) | (with_reducible refine Later.setCell ?_ (by simp) _) | (with_reducible refine Later.drewN ?_ _) | (with_reducible refine Later.drew ?_) | (with_reducible refine Later.trans ?_ (Hid.out (by assumption))))))
      (first
        | (go_at_call 118; refine (RC.out _ (by repeat (first | (with_reducible exact Later.refl _) | (with_reducible exact Hid.out (by assumption)) | (with_reducible refine Later.alloc ?_ _) | (with_reducible refine Later.setCell ?_ (by simp; omega) _) | (with_reducible refine Later.setCell ?_ (by simp) _) | (with_reducible refine Later.drewN ?_ _) | (with_reducible refine Later.drew ?_) | (with_reducible refine Later.trans ?_ (Hid.out (by assumption)))))).mono ?_; rintro e w2 ⟨m2, rfl, ⟨c, hm⟩, hb⟩; have H2 := Lib.hid hb; have hlk := look_of hm KG.out hat; have hlq := fun q => look_of (NSk.later hm ((Later.refl _).drewN q)) KG.out hat; have hld := look_of (NSk.later hm (Later.refl _).drew) KG.out hat; clear hm hb))
    all_goals
      go_wp2
      go_ret
      exact ⟨by rw [HV.out]; rfl, (by repeat (first | (with_reducible exact Later.refl _) | (with_reducible exact Hid.out (by assumption)) | (with_reducible refine Later.alloc ?_ _) | (with_reducible refine Later.setCell ?_ (by simp; omega) _) | (with_reducible refine Later.setCell ?_ (by simp) _) | (with_reducible refine Later.drewN ?_ _) | (with_reducible refine Later.drew ?_) | (with_reducible refine Later.trans ?_ (Hid.out (by assumption)))))⟩
  · go_enter Tryd.func91, Tryd.ntmps91
    go_wp2_with fail
    generalize (w.alloc (.cells #[.string s0, .slice a1 n1 c1, .slice a2 n2 c2, .slice a3 n3 c3, .string s4, .slice a4 n4 c4] 27)) = W0 at C0 A0 q0 q1 q2 q3 q4 q5 ⊢
    go_quiet (fail)
    all_goals
      go_wp2
      go_ret
      exact ⟨by rw [HV.out]; rfl, (by repeat (first | (with_reducible exact Later.refl _) | (with_reducible exact Hid.out (by assumption)) | (with_reducible refine Later.alloc ?_ _) | (with_reducible refine Later.setCell ?_ (by simp; omega) _) | (with_reducible refine Later.setCell ?_ (by simp) _) | (with_reducible refine Later.drewN ?_ _) | (with_reducible refine Later.drew ?_) | (with_reducible refine Later.trans ?_ (Hid.out (by assumption)))))⟩
end Go.Proofs.YtokipobjpinhmaaDoor
namespace Go.Proofs.YtokipobjpinhmaaDoor
open Go.RowKit Go.Shelf
set_option maxHeartbeats 4000000
set_option maxRecDepth 100000
set_option linter.unusedVariables false
set_option linter.unusedSimpArgs false
/-- rule j + 1 -/
def ruN (p : Prg) : Nat → Bool
  | 0 => ru1 p
  | 1 => ru2 p
  | 2 => ru3 p
  | 3 => ru4 p
  | 4 => ru5 p
  | 5 => ru6 p
  | _ => true
theorem flt_bad (p : Prg) (k : Nat) (hk : k < 6) (h : ∀ j, j < k → ruN p j = true) (hb : ruN p k = false) : fltV p = (k : Int) + 1 := by
  unfold fltV
  match k, hk with
  | 0, _ =>
    have hb : ru1 p = false := hb
    rw [if_pos hb]; rfl
  | 1, _ =>
    have hb : ru2 p = false := hb
    have h0 : ru1 p = true := h 0 (by omega)
    rw [h0, if_neg (by simp), if_pos hb]; rfl
  | 2, _ =>
    have hb : ru3 p = false := hb
    have h0 : ru1 p = true := h 0 (by omega)
    have h1 : ru2 p = true := h 1 (by omega)
    rw [h0, h1, if_neg (by simp), if_neg (by simp), if_pos hb]; rfl
  | 3, _ =>
    have hb : ru4 p = false := hb
    have h0 : ru1 p = true := h 0 (by omega)
    have h1 : ru2 p = true := h 1 (by omega)
    have h2 : ru3 p = true := h 2 (by omega)
    rw [h0, h1, h2, if_neg (by simp), if_neg (by simp), if_neg (by simp), if_pos hb]; rfl
  | 4, _ =>
    have hb : ru5 p = false := hb
    have h0 : ru1 p = true := h 0 (by omega)
    have h1 : ru2 p = true := h 1 (by omega)
    have h2 : ru3 p = true := h 2 (by omega)
    have h3 : ru4 p = true := h 3 (by omega)
    rw [h0, h1, h2, h3, if_neg (by simp), if_neg (by simp), if_neg (by simp), if_neg (by simp), if_pos hb]; rfl
  | 5, _ =>
    have hb : ru6 p = false := hb
    have h0 : ru1 p = true := h 0 (by omega)
    have h1 : ru2 p = true := h 1 (by omega)
    have h2 : ru3 p = true := h 2 (by omega)
    have h3 : ru4 p = true := h 3 (by omega)
    have h4 : ru5 p = true := h 4 (by omega)
    rw [h0, h1, h2, h3, h4, if_neg (by simp), if_neg (by simp), if_neg (by simp), if_neg (by simp), if_neg (by simp), if_pos hb]; rfl
theorem flt_good (p : Prg) (h : ∀ j, j < 6 → ruN p j = true) : fltV p = 0 := by
  have h0 : ru1 p = true := h 0 (by omega)
  have h1 : ru2 p = true := h 1 (by omega)
  have h2 : ru3 p = true := h 2 (by omega)
  have h3 : ru4 p = true := h 3 (by omega)
  have h4 : ru5 p = true := h 4 (by omega)
  have h5 : ru6 p = true := h 5 (by omega)
  unfold fltV
  rw [h0, h1, h2, h3, h4, h5]
  simp
theorem flt_rng (p : Prg) : 0 ≤ fltV p ∧ fltV p ≤ 6 := by
  unfold fltV
  split
  · omega
  split
  · omega
  split
  · omega
  split
  · omega
  split
  · omega
  split <;> omega
theorem i_brokenRule (base : Nat) (v : Value) (p : Prg) (w : World) (hp : PgC base w v p) (hb : Wb p) : Calls Tryd.prog 50 #[v] w fun e w' => e = .returned (.int .i64 (fltV p)) ∧ Later w w' := by
  have R0 : Hid (∀ W, Later w W → Calls Tryd.prog 90 #[v] W fun e w' => e = .returned (.bool (ruN p 0)) ∧ Later W w') := Lib.hid (fun W h => i_declaresNamesOnce base v p W (hp.later h) hb)
  have R1 : Hid (∀ W, Later w W → Calls Tryd.prog 91 #[v] W fun e w' => e = .returned (.bool (ruN p 1)) ∧ Later W w') := Lib.hid (fun W h => i_hasReadableGuard base v p W (hp.later h) hb)
  have R2 : Hid (∀ W, Later w W → Calls Tryd.prog 92 #[v] W fun e w' => e = .returned (.bool (ruN p 2)) ∧ Later W w') := Lib.hid (fun W h => i_assignsNothingElse base v p W (hp.later h) hb)
  have R3 : Hid (∀ W, Later w W → Calls Tryd.prog 93 #[v] W fun e w' => e = .returned (.bool (ruN p 3)) ∧ Later W w') := Lib.hid (fun W h => i_assignsNothingTwice base v p W (hp.later h) hb)
  have R4 : Hid (∀ W, Later w W → Calls Tryd.prog 94 #[v] W fun e w' => e = .returned (.bool (ruN p 4)) ∧ Later W w') := Lib.hid (fun W h => i_assignsAll base v p W (hp.later h) hb)
  have R5 : Hid (∀ W, Later w W → Calls Tryd.prog 95 #[v] W fun e w' => e = .returned (.bool (ruN p 5)) ∧ Later W w') := Lib.hid (fun W h => i_usesReadableNames base v p W (hp.later h) hb)
  have FB := Lib.hid (flt_bad p)
  have FG := Lib.hid (flt_good p)
  obtain ⟨a1, c1, a2, c2, a3, c3, a4, c4, rfl, _, _, _, _, _, _⟩ := hp.pgv
  clear hp hb
  obtain ⟨s0, hs0⟩ : ∃ q, q = tx p.nm := ⟨_, rfl⟩
  obtain ⟨s4, hs4⟩ : ∃ q, q = tx p.grd := ⟨_, rfl⟩
  obtain ⟨n1, hn1⟩ : ∃ q, q = p.ins.length := ⟨_, rfl⟩
  obtain ⟨n2, hn2⟩ : ∃ q, q = p.vrs.length := ⟨_, rfl⟩
  obtain ⟨n3, hn3⟩ : ∃ q, q = p.outs.length := ⟨_, rfl⟩
  obtain ⟨n4, hn4⟩ : ∃ q, q = p.lns.length := ⟨_, rfl⟩
  simp only [← hs0, ← hs4, ← hn1, ← hn2, ← hn3, ← hn4] at R0 R1 R2 R3 R4 R5 ⊢
  generalize fltV p = V at FB FG ⊢
  generalize ruN p = ru at R0 R1 R2 R3 R4 R5 FB FG
  clear hs0 hs4 hn1 hn2 hn3 hn4
  have q0 : (w.alloc (.cells #[.string s0, .slice a1 n1 c1, .slice a2 n2 c2, .slice a3 n3 c3, .string s4, .slice a4 n4 c4] 27)).cell? ⟨w.heap.size, 0, none⟩ = some (.string s0) := by rw [cell_of_row _ _ 0 _ _ (0, 0) (heap_alloc_new w _)]; rfl
  have q1 : (w.alloc (.cells #[.string s0, .slice a1 n1 c1, .slice a2 n2 c2, .slice a3 n3 c3, .string s4, .slice a4 n4 c4] 27)).cell? ⟨w.heap.size, 1, none⟩ = some (.slice a1 n1 c1) := by rw [cell_of_row _ _ 1 _ _ (0, 0) (heap_alloc_new w _)]; rfl
  have q2 : (w.alloc (.cells #[.string s0, .slice a1 n1 c1, .slice a2 n2 c2, .slice a3 n3 c3, .string s4, .slice a4 n4 c4] 27)).cell? ⟨w.heap.size, 2, none⟩ = some (.slice a2 n2 c2) := by rw [cell_of_row _ _ 2 _ _ (0, 0) (heap_alloc_new w _)]; rfl
  have q3 : (w.alloc (.cells #[.string s0, .slice a1 n1 c1, .slice a2 n2 c2, .slice a3 n3 c3, .string s4, .slice a4 n4 c4] 27)).cell? ⟨w.heap.size, 3, none⟩ = some (.slice a3 n3 c3) := by rw [cell_of_row _ _ 3 _ _ (0, 0) (heap_alloc_new w _)]; rfl
  have q4 : (w.alloc (.cells #[.string s0, .slice a1 n1 c1, .slice a2 n2 c2, .slice a3 n3 c3, .string s4, .slice a4 n4 c4] 27)).cell? ⟨w.heap.size, 4, none⟩ = some (.string s4) := by rw [cell_of_row _ _ 4 _ _ (0, 0) (heap_alloc_new w _)]; rfl
  have q5 : (w.alloc (.cells #[.string s0, .slice a1 n1 c1, .slice a2 n2 c2, .slice a3 n3 c3, .string s4, .slice a4 n4 c4] 27)).cell? ⟨w.heap.size, 5, none⟩ = some (.slice a4 n4 c4) := by rw [cell_of_row _ _ 5 _ _ (0, 0) (heap_alloc_new w _)]; rfl
  have hW0 : w.heap.size < (w.alloc (.cells #[.string s0, .slice a1 n1 c1, .slice a2 n2 c2, .slice a3 n3 c3, .string s4, .slice a4 n4 c4] 27)).heap.size := by rw [World.size_alloc]; exact Nat.lt_succ_self _
  have C0 : Hid (∀ W', Later (w.alloc (.cells #[.string s0, .slice a1 n1 c1, .slice a2 n2 c2, .slice a3 n3 c3, .string s4, .slice a4 n4 c4] 27)) W' → W'.cell? ⟨w.heap.size, 0, none⟩ = some (.string s0) ∧ W'.cell? ⟨w.heap.size, 1, none⟩ = some (.slice a1 n1 c1) ∧ W'.cell? ⟨w.heap.size, 2, none⟩ = some (.slice a2 n2 c2) ∧ W'.cell? ⟨w.heap.size, 3, none⟩ = some (.slice a3 n3 c3) ∧ W'.cell? ⟨w.heap.size, 4, none⟩ = some (.string s4) ∧ W'.cell? ⟨w.heap.size, 5, none⟩ = some (.slice a4 n4 c4)) := Lib.hid (fun W' q => ⟨by rw [q.cell (p := ⟨w.heap.size, 0, none⟩) hW0]; exact q0, by rw [q.cell (p := ⟨w.heap.size, 1, none⟩) hW0]; exact q1, by rw [q.cell (p := ⟨w.heap.size, 2, none⟩) hW0]; exact q2, by rw [q.cell (p := ⟨w.heap.size, 3, none⟩) hW0]; exact q3, by rw [q.cell (p := ⟨w.heap.size, 4, none⟩) hW0]; exact q4, by rw [q.cell (p := ⟨w.heap.size, 5, none⟩) hW0]; exact q5⟩)
  have A0 : Hid (Later w (w.alloc (.cells #[.string s0, .slice a1 n1 c1, .slice a2 n2 c2, .slice a3 n3 c3, .string s4, .slice a4 n4 c4] 27))) := Lib.hid ((Later.refl _).alloc _)
  clear hW0
  have hmf : ∀ (fn : Fn) (first cap : Array Value) (w : World), (Instr.makeFunc fn first cap).run Tryd.prog w = .ok (.func fn first cap) w := fun _ _ _ _ => rfl
  go_enter Tryd.func50, Tryd.ntmps50
  go_wp2_with fail
  obtain ⟨VV, hVV⟩ : ∃ VV : Value, VV = .agg #[.string s0, .slice a1 n1 c1, .slice a2 n2 c2, .slice a3 n3 c3, .string s4, .slice a4 n4 c4] := ⟨_, rfl⟩
  simp only [← hVV] at R0 R1 R2 R3 R4 R5 ⊢
  clear hVV hmf q0 q1 q2 q3 q4 q5 C0
  have hz : (w.alloc (.cells #[.string s0, .slice a1 n1 c1, .slice a2 n2 c2, .slice a3 n3 c3, .string s4, .slice a4 n4 c4] 27)).heap.size = w.heap.size + 1 := World.size_alloc _ _
  generalize (w.alloc (.cells #[.string s0, .slice a1 n1 c1, .slice a2 n2 c2, .slice a3 n3 c3, .string s4, .slice a4 n4 c4] 27)) = W0 at A0 hz ⊢
  have f0 : Fr (w.heap.size + 1) [.func (.func 90) #[VV] #[], .func (.func 91) #[VV] #[], .func (.func 92) #[VV] #[], .func (.func 93) #[VV] #[], .func (.func 94) #[VV] #[], .func (.func 95) #[VV] #[]] (W0.alloc (.cells #[.func (.func 90) #[VV] #[], .func (.func 91) #[VV] #[], .func (.func 92) #[VV] #[], .func (.func 93) #[VV] #[], .func (.func 94) #[VV] #[], .func (.func 95) #[VV] #[]] 101)) := by rw [← hz]; exact frP_new W0 [.func (.func 90) #[VV] #[], .func (.func 91) #[VV] #[], .func (.func 92) #[VV] #[], .func (.func 93) #[VV] #[], .func (.func 94) #[VV] #[], .func (.func 95) #[VV] #[]] _
  have A1 : Hid (Later w (W0.alloc (.cells #[.func (.func 90) #[VV] #[], .func (.func 91) #[VV] #[], .func (.func 92) #[VV] #[], .func (.func 93) #[VV] #[], .func (.func 94) #[VV] #[], .func (.func 95) #[VV] #[]] 101))) := Lib.hid (A0.out.alloc _)
  generalize (W0.alloc (.cells #[.func (.func 90) #[VV] #[], .func (.func 91) #[VV] #[], .func (.func 92) #[VV] #[], .func (.func 93) #[VV] #[], .func (.func 94) #[VV] #[], .func (.func 95) #[VV] #[]] 101)) = W1 at f0 A1 ⊢
  have F0 := Lib.hid f0
  clear f0 hz A0
  clear W0
  go_loopw [21] (fun i wr => ∃ k : Nat, k ≤ 6 ∧ i = .int .i64 k ∧ Later W1 wr ∧ Hid (∀ j, j < k → ru j = true)) (fun i _ => 6 - (intOf i).toNat)
  case atStart => exact ⟨0, by omega, rfl, Later.refl _, Lib.hid (by intro j h; omega)⟩
  case round =>
    obtain ⟨k, hk, rfl, hb, HI⟩ := hrel
    have B3 := Lib.hid hb
    have L3 := Lib.hid (Later.trans A1.out hb)
    obtain ⟨o0, o1, o2, o3, o4, o5, _, _, _, _, _, _⟩ := (fr_later F0.out hb).o6
    clear hb
    by_cases hlt : k < 6
    · rcases (show k = 0 ∨ k = 1 ∨ k = 2 ∨ k = 3 ∨ k = 4 ∨ k = 5 by omega) with rfl | rfl | rfl | rfl | rfl | rfl
      · have RK := Lib.hid (R0.out _ L3.out)
        have HB := Lib.hid (FB.out 0 (by omega) HI.out)
        have HN : Hid (ru 0 = true → ∀ j, j < 0 + 1 → ru j = true) := Lib.hid (fun h j hj => by
          rcases Nat.lt_or_ge j 0 with h1 | h1
          · exact HI.out j h1
          · obtain rfl : j = 0 := by omega
            exact h)
        clear R0 R1 R2 R3 R4 R5
        generalize ru 0 = b at RK HB HN
        cases b
        · have HV : Hid (V = (0 : Int) + 1) := Lib.hid (HB.out rfl)
          go_wp2_with fail
          refine RK.out.mono ?_
          rintro e w4 ⟨rfl, hb⟩
          have B4 := Lib.hid (Later.trans L3.out hb)
          clear hb
          go_wp2_with fail
          all_goals
            go_ret
            exact ⟨by rw [HV.out]; rfl, B4.out⟩
        · have HN2 := Lib.hid (HN.out rfl)
          go_wp2_with fail
          refine RK.out.mono ?_
          rintro e w4 ⟨rfl, hb⟩
          have B4 := Lib.hid (Later.trans B3.out hb)
          clear hb
          go_wp2_with fail
          go_roundw
          case rel => exact ⟨0 + 1, by omega, by go_num, B4.out, HN2.out⟩
          case measure => simp [intOf] <;> omega
      · have RK := Lib.hid (R1.out _ L3.out)
        have HB := Lib.hid (FB.out 1 (by omega) HI.out)
        have HN : Hid (ru 1 = true → ∀ j, j < 1 + 1 → ru j = true) := Lib.hid (fun h j hj => by
          rcases Nat.lt_or_ge j 1 with h1 | h1
          · exact HI.out j h1
          · obtain rfl : j = 1 := by omega
            exact h)
        clear R0 R1 R2 R3 R4 R5
        generalize ru 1 = b at RK HB HN
        cases b
        · have HV : Hid (V = (1 : Int) + 1) := Lib.hid (HB.out rfl)
          go_wp2_with fail
          refine RK.out.mono ?_
          rintro e w4 ⟨rfl, hb⟩
          have B4 := Lib.hid (Later.trans L3.out hb)
          clear hb
          go_wp2_with fail
          all_goals
            go_ret
            exact ⟨by rw [HV.out]; rfl, B4.out⟩
        · have HN2 := Lib.hid (HN.out rfl)
          go_wp2_with fail
          refine RK.out.mono ?_
          rintro e w4 ⟨rfl, hb⟩
          have B4 := Lib.hid (Later.trans B3.out hb)
          clear hb
          go_wp2_with fail
          go_roundw
          case rel => exact ⟨1 + 1, by omega, by go_num, B4.out, HN2.out⟩
          case measure => simp [intOf] <;> omega
      · have RK := Lib.hid (R2.out _ L3.out)
        have HB := Lib.hid (FB.out 2 (by omega) HI.out)
        have HN : Hid (ru 2 = true → ∀ j, j < 2 + 1 → ru j = true) := Lib.hid (fun h j hj => by
          rcases Nat.lt_or_ge j 2 with h1 | h1
          · exact HI.out j h1
          · obtain rfl : j = 2 := by omega
            exact h)
        clear R0 R1 R2 R3 R4 R5
        generalize ru 2 = b at RK HB HN
        cases b
        · have HV : Hid (V = (2 : Int) + 1) := Lib.hid (HB.out rfl)
          go_wp2_with fail
          refine RK.out.mono ?_
          rintro e w4 ⟨rfl, hb⟩
          have B4 := Lib.hid (Later.trans L3.out hb)
          clear hb
          go_wp2_with fail
          all_goals
            go_ret
            exact ⟨by rw [HV.out]; rfl, B4.out⟩
        · have HN2 := Lib.hid (HN.out rfl)
          go_wp2_with fail
          refine RK.out.mono ?_
          rintro e w4 ⟨rfl, hb⟩
          have B4 := Lib.hid (Later.trans B3.out hb)
          clear hb
          go_wp2_with fail
          go_roundw
          case rel => exact ⟨2 + 1, by omega, by go_num, B4.out, HN2.out⟩
          case measure => simp [intOf] <;> omega
      · have RK := Lib.hid (R3.out _ L3.out)
        have HB := Lib.hid (FB.out 3 (by omega) HI.out)
        have HN : Hid (ru 3 = true → ∀ j, j < 3 + 1 → ru j = true) := Lib.hid (fun h j hj => by
          rcases Nat.lt_or_ge j 3 with h1 | h1
          · exact HI.out j h1
          · obtain rfl : j = 3 := by omega
            exact h)
        clear R0 R1 R2 R3 R4 R5
        generalize ru 3 = b at RK HB HN
        cases b
        · have HV : Hid (V = (3 : Int) + 1) := Lib.hid (HB.out rfl)
          go_wp2_with fail
          refine RK.out.mono ?_
          rintro e w4 ⟨rfl, hb⟩
          have B4 := Lib.hid (Later.trans L3.out hb)
          clear hb
          go_wp2_with fail
          all_goals
            go_ret
            exact ⟨by rw [HV.out]; rfl, B4.out⟩
        · have HN2 := Lib.hid (HN.out rfl)
          go_wp2_with fail
          refine RK.out.mono ?_
          rintro e w4 ⟨rfl, hb⟩
          have B4 := Lib.hid (Later.trans B3.out hb)
          clear hb
          go_wp2_with fail
          go_roundw
          case rel => exact ⟨3 + 1, by omega, by go_num, B4.out, HN2.out⟩
          case measure => simp [intOf] <;> omega
      · have RK := Lib.hid (R4.out _ L3.out)
        have HB := Lib.hid (FB.out 4 (by omega) HI.out)
        have HN : Hid (ru 4 = true → ∀ j, j < 4 + 1 → ru j = true) := Lib.hid (fun h j hj => by
          rcases Nat.lt_or_ge j 4 with h1 | h1
          · exact HI.out j h1
          · obtain rfl : j = 4 := by omega
            exact h)
        clear R0 R1 R2 R3 R4 R5
        generalize ru 4 = b at RK HB HN
        cases b
        · have HV : Hid (V = (4 : Int) + 1) := Lib.hid (HB.out rfl)
          go_wp2_with fail
          refine RK.out.mono ?_
          rintro e w4 ⟨rfl, hb⟩
          have B4 := Lib.hid (Later.trans L3.out hb)
          clear hb
          go_wp2_with fail
          all_goals
            go_ret
            exact ⟨by rw [HV.out]; rfl, B4.out⟩
        · have HN2 := Lib.hid (HN.out rfl)
          go_wp2_with fail
          refine RK.out.mono ?_
          rintro e w4 ⟨rfl, hb⟩
          have B4 := Lib.hid (Later.trans B3.out hb)
          clear hb
          go_wp2_with fail
          go_roundw
          case rel => exact ⟨4 + 1, by omega, by go_num, B4.out, HN2.out⟩
          case measure => simp [intOf] <;> omega
      · have RK := Lib.hid (R5.out _ L3.out)
        have HB := Lib.hid (FB.out 5 (by omega) HI.out)
        have HN : Hid (ru 5 = true → ∀ j, j < 5 + 1 → ru j = true) := Lib.hid (fun h j hj => by
          rcases Nat.lt_or_ge j 5 with h1 | h1
          · exact HI.out j h1
          · obtain rfl : j = 5 := by omega
            exact h)
        clear R0 R1 R2 R3 R4 R5
        generalize ru 5 = b at RK HB HN
        cases b
        · have HV : Hid (V = (5 : Int) + 1) := Lib.hid (HB.out rfl)
          go_wp2_with fail
          refine RK.out.mono ?_
          rintro e w4 ⟨rfl, hb⟩
          have B4 := Lib.hid (Later.trans L3.out hb)
          clear hb
          go_wp2_with fail
          all_goals
            go_ret
            exact ⟨by rw [HV.out]; rfl, B4.out⟩
        · have HN2 := Lib.hid (HN.out rfl)
          go_wp2_with fail
          refine RK.out.mono ?_
          rintro e w4 ⟨rfl, hb⟩
          have B4 := Lib.hid (Later.trans B3.out hb)
          clear hb
          go_wp2_with fail
          go_roundw
          case rel => exact ⟨5 + 1, by omega, by go_num, B4.out, HN2.out⟩
          case measure => simp [intOf] <;> omega
    · obtain rfl : k = 6 := by omega
      have HV := Lib.hid (FG.out HI.out)
      go_wp2_with fail
      all_goals
        go_ret
        exact ⟨by rw [HV.out]; rfl, L3.out⟩
end Go.Proofs.YtokipobjpinhmaaDoor
namespace Go.Proofs.YtokipobjpinhmaaDoor
open Go.RowKit Go.Shelf
set_option maxHeartbeats 4000000
set_option maxRecDepth 100000
set_option linter.unusedVariables false
set_option linter.unusedSimpArgs false
/-- what ProgramFault and its kin say -/
def pfV (p : Prg) : Int := if wrtB p = true then fltV p else 0
def pfE (p : Prg) : Int := if wrtB p = true then 0 else 1
def seV (p : Prg) : Int := if wrtB p = true then (if fltV p = 0 then 0 else 5) else 1
def isS (p : Prg) : Bool := decide (seV p = 0)
theorem i_ProgramFault (base : Nat) (v : Value) (p : Prg) (w : World) (hp : PgC base w v p) (ho : Ops w) (hl : p.lns.length ≤ 1048576) :
    Calls Tryd.prog 15 #[v] w fun e w' => e = .returned (.tuple #[.int .i64 (pfV p), .int .i64 (pfE p)]) ∧ Later w w' := by
  have IW := Lib.hid (fun W (h : Later w W) => i_IsWritten v p W (hp.pgv.later h) (ho.later h) (by omega))
  have BR := Lib.hid (fun W (h : Later w W) (hw : wrtB p = true) => i_brokenRule base v p W (hp.later h) (wb_of p hw))
  have HV : Hid (pfV p = if wrtB p = true then fltV p else 0) := Lib.hid rfl
  have HE : Hid (pfE p = if wrtB p = true then 0 else 1) := Lib.hid rfl
  obtain ⟨a1, c1, a2, c2, a3, c3, a4, c4, rfl, _, _, _, _, _, _⟩ := hp.pgv
  clear hp ho hl
  generalize pfV p = V at HV ⊢
  generalize pfE p = E at HE ⊢
  generalize wrtB p = b at IW BR HV HE
  generalize fltV p = r at BR HV
  obtain ⟨s0, hs0⟩ : ∃ q, q = tx p.nm := ⟨_, rfl⟩
  obtain ⟨s4, hs4⟩ : ∃ q, q = tx p.grd := ⟨_, rfl⟩
  obtain ⟨n1, hn1⟩ : ∃ q, q = p.ins.length := ⟨_, rfl⟩
  obtain ⟨n2, hn2⟩ : ∃ q, q = p.vrs.length := ⟨_, rfl⟩
  obtain ⟨n3, hn3⟩ : ∃ q, q = p.outs.length := ⟨_, rfl⟩
  obtain ⟨n4, hn4⟩ : ∃ q, q = p.lns.length := ⟨_, rfl⟩
  simp only [← hs0, ← hs4, ← hn1, ← hn2, ← hn3, ← hn4] at IW BR ⊢
  clear hs0 hs4 hn1 hn2 hn3 hn4
  have q0 : (w.alloc (.cells #[.string s0, .slice a1 n1 c1, .slice a2 n2 c2, .slice a3 n3 c3, .string s4, .slice a4 n4 c4] 27)).cell? ⟨w.heap.size, 0, none⟩ = some (.string s0) := by rw [cell_of_row _ _ 0 _ _ (0, 0) (heap_alloc_new w _)]; rfl
  have q1 : (w.alloc (.cells #[.string s0, .slice a1 n1 c1, .slice a2 n2 c2, .slice a3 n3 c3, .string s4, .slice a4 n4 c4] 27)).cell? ⟨w.heap.size, 1, none⟩ = some (.slice a1 n1 c1) := by rw [cell_of_row _ _ 1 _ _ (0, 0) (heap_alloc_new w _)]; rfl
  have q2 : (w.alloc (.cells #[.string s0, .slice a1 n1 c1, .slice a2 n2 c2, .slice a3 n3 c3, .string s4, .slice a4 n4 c4] 27)).cell? ⟨w.heap.size, 2, none⟩ = some (.slice a2 n2 c2) := by rw [cell_of_row _ _ 2 _ _ (0, 0) (heap_alloc_new w _)]; rfl
  have q3 : (w.alloc (.cells #[.string s0, .slice a1 n1 c1, .slice a2 n2 c2, .slice a3 n3 c3, .string s4, .slice a4 n4 c4] 27)).cell? ⟨w.heap.size, 3, none⟩ = some (.slice a3 n3 c3) := by rw [cell_of_row _ _ 3 _ _ (0, 0) (heap_alloc_new w _)]; rfl
  have q4 : (w.alloc (.cells #[.string s0, .slice a1 n1 c1, .slice a2 n2 c2, .slice a3 n3 c3, .string s4, .slice a4 n4 c4] 27)).cell? ⟨w.heap.size, 4, none⟩ = some (.string s4) := by rw [cell_of_row _ _ 4 _ _ (0, 0) (heap_alloc_new w _)]; rfl
  have q5 : (w.alloc (.cells #[.string s0, .slice a1 n1 c1, .slice a2 n2 c2, .slice a3 n3 c3, .string s4, .slice a4 n4 c4] 27)).cell? ⟨w.heap.size, 5, none⟩ = some (.slice a4 n4 c4) := by rw [cell_of_row _ _ 5 _ _ (0, 0) (heap_alloc_new w _)]; rfl
  have hW0 : w.heap.size < (w.alloc (.cells #[.string s0, .slice a1 n1 c1, .slice a2 n2 c2, .slice a3 n3 c3, .string s4, .slice a4 n4 c4] 27)).heap.size := by rw [World.size_alloc]; exact Nat.lt_succ_self _
  have C0 : Hid (∀ W', Later (w.alloc (.cells #[.string s0, .slice a1 n1 c1, .slice a2 n2 c2, .slice a3 n3 c3, .string s4, .slice a4 n4 c4] 27)) W' → W'.cell? ⟨w.heap.size, 0, none⟩ = some (.string s0) ∧ W'.cell? ⟨w.heap.size, 1, none⟩ = some (.slice a1 n1 c1) ∧ W'.cell? ⟨w.heap.size, 2, none⟩ = some (.slice a2 n2 c2) ∧ W'.cell? ⟨w.heap.size, 3, none⟩ = some (.slice a3 n3 c3) ∧ W'.cell? ⟨w.heap.size, 4, none⟩ = some (.string s4) ∧ W'.cell? ⟨w.heap.size, 5, none⟩ = some (.slice a4 n4 c4)) := Lib.hid (fun W' q => ⟨by rw [q.cell (p := ⟨w.heap.size, 0, none⟩) hW0]; exact q0, by rw [q.cell (p := ⟨w.heap.size, 1, none⟩) hW0]; exact q1, by rw [q.cell (p := ⟨w.heap.size, 2, none⟩) hW0]; exact q2, by rw [q.cell (p := ⟨w.heap.size, 3, none⟩) hW0]; exact q3, by rw [q.cell (p := ⟨w.heap.size, 4, none⟩) hW0]; exact q4, by rw [q.cell (p := ⟨w.heap.size, 5, none⟩) hW0]; exact q5⟩)
  have A0 : Hid (Later w (w.alloc (.cells #[.string s0, .slice a1 n1 c1, .slice a2 n2 c2, .slice a3 n3 c3, .string s4, .slice a4 n4 c4] 27))) := Lib.hid ((Later.refl _).alloc _)
  clear hW0
  cases b
  · obtain rfl : V = 0 := HV.out
    obtain rfl : E = 1 := HE.out
    go_enter Tryd.func15, Tryd.ntmps15
    go_wp2_with fail
    generalize (w.alloc (.cells #[.string s0, .slice a1 n1 c1, .slice a2 n2 c2, .slice a3 n3 c3, .string s4, .slice a4 n4 c4] 27)) = W0 at C0 A0 q0 q1 q2 q3 q4 q5 ⊢
    refine (IW.out _ A0.out).mono ?_
    rintro e w1 ⟨rfl, hb⟩
    have B1 := Lib.hid (Later.trans A0.out hb)
    clear hb q0 q1 q2 q3 q4 q5
    go_wp2_with fail
    all_goals
      refine bodyPost_ret (v := .tuple #[.int .i64 0, .int .i64 1]) (by simp [results, Tryd.results15, go_sem, *]) rfl ⟨rfl, B1.out⟩
  · obtain rfl : V = r := HV.out
    obtain rfl : E = 0 := HE.out
    go_enter Tryd.func15, Tryd.ntmps15
    go_wp2_with fail
    generalize (w.alloc (.cells #[.string s0, .slice a1 n1 c1, .slice a2 n2 c2, .slice a3 n3 c3, .string s4, .slice a4 n4 c4] 27)) = W0 at C0 A0 q0 q1 q2 q3 q4 q5 ⊢
    refine (IW.out _ A0.out).mono ?_
    rintro e w1 ⟨rfl, hb⟩
    have B1 := Lib.hid (Later.trans A0.out hb)
    clear q0 q1 q2 q3 q4 q5
    obtain ⟨q0, q1, q2, q3, q4, q5⟩ := C0.out _ hb
    clear hb
    go_wp2_with fail
    refine (BR.out _ B1.out trivial).mono ?_
    rintro e w2 ⟨rfl, hb⟩
    have B2 := Lib.hid (Later.trans B1.out hb)
    clear hb
    go_wp2_with fail
    all_goals
      refine bodyPost_ret (v := .tuple #[.int .i64 V, .int .i64 0]) (by simp [results, Tryd.results15, go_sem, *]) rfl ⟨rfl, B2.out⟩
theorem i_soundError (base : Nat) (v : Value) (p : Prg) (w : World) (hp : PgC base w v p) (ho : Ops w) (hl : p.lns.length ≤ 1048576) :
    Calls Tryd.prog 57 #[v] w fun e w' => e = .returned (.int .i64 (seV p)) ∧ Later w w' := by
  have PF := Lib.hid (fun W (h : Later w W) => i_ProgramFault base v p W (hp.later h) (ho.later h) hl)
  have HV : Hid (seV p = if wrtB p = true then (if fltV p = 0 then 0 else 5) else 1) := Lib.hid rfl
  have HP1 : Hid (pfV p = if wrtB p = true then fltV p else 0) := Lib.hid rfl
  have HP2 : Hid (pfE p = if wrtB p = true then 0 else 1) := Lib.hid rfl
  obtain ⟨a1, c1, a2, c2, a3, c3, a4, c4, rfl, _, _, _, _, _, _⟩ := hp.pgv
  clear hp ho hl
  generalize seV p = V at HV ⊢
  generalize pfV p = r1 at PF HP1
  generalize pfE p = r2 at PF HP2
  generalize wrtB p = b at HV HP1 HP2
  generalize fltV p = r at HV HP1
  obtain ⟨s0, hs0⟩ : ∃ q, q = tx p.nm := ⟨_, rfl⟩
  obtain ⟨s4, hs4⟩ : ∃ q, q = tx p.grd := ⟨_, rfl⟩
  obtain ⟨n1, hn1⟩ : ∃ q, q = p.ins.length := ⟨_, rfl⟩
  obtain ⟨n2, hn2⟩ : ∃ q, q = p.vrs.length := ⟨_, rfl⟩
  obtain ⟨n3, hn3⟩ : ∃ q, q = p.outs.length := ⟨_, rfl⟩
  obtain ⟨n4, hn4⟩ : ∃ q, q = p.lns.length := ⟨_, rfl⟩
  simp only [← hs0, ← hs4, ← hn1, ← hn2, ← hn3, ← hn4] at PF ⊢
  clear hs0 hs4 hn1 hn2 hn3 hn4
  have q0 : (w.alloc (.cells #[.string s0, .slice a1 n1 c1, .slice a2 n2 c2, .slice a3 n3 c3, .string s4, .slice a4 n4 c4] 27)).cell? ⟨w.heap.size, 0, none⟩ = some (.string s0) := by rw [cell_of_row _ _ 0 _ _ (0, 0) (heap_alloc_new w _)]; rfl
  have q1 : (w.alloc (.cells #[.string s0, .slice a1 n1 c1, .slice a2 n2 c2, .slice a3 n3 c3, .string s4, .slice a4 n4 c4] 27)).cell? ⟨w.heap.size, 1, none⟩ = some (.slice a1 n1 c1) := by rw [cell_of_row _ _ 1 _ _ (0, 0) (heap_alloc_new w _)]; rfl
  have q2 : (w.alloc (.cells #[.string s0, .slice a1 n1 c1, .slice a2 n2 c2, .slice a3 n3 c3, .string s4, .slice a4 n4 c4] 27)).cell? ⟨w.heap.size, 2, none⟩ = some (.slice a2 n2 c2) := by rw [cell_of_row _ _ 2 _ _ (0, 0) (heap_alloc_new w _)]; rfl
  have q3 : (w.alloc (.cells #[.string s0, .slice a1 n1 c1, .slice a2 n2 c2, .slice a3 n3 c3, .string s4, .slice a4 n4 c4] 27)).cell? ⟨w.heap.size, 3, none⟩ = some (.slice a3 n3 c3) := by rw [cell_of_row _ _ 3 _ _ (0, 0) (heap_alloc_new w _)]; rfl
  have q4 : (w.alloc (.cells #[.string s0, .slice a1 n1 c1, .slice a2 n2 c2, .slice a3 n3 c3, .string s4, .slice a4 n4 c4] 27)).cell? ⟨w.heap.size, 4, none⟩ = some (.string s4) := by rw [cell_of_row _ _ 4 _ _ (0, 0) (heap_alloc_new w _)]; rfl
  have q5 : (w.alloc (.cells #[.string s0, .slice a1 n1 c1, .slice a2 n2 c2, .slice a3 n3 c3, .string s4, .slice a4 n4 c4] 27)).cell? ⟨w.heap.size, 5, none⟩ = some (.slice a4 n4 c4) := by rw [cell_of_row _ _ 5 _ _ (0, 0) (heap_alloc_new w _)]; rfl
  have hW0 : w.heap.size < (w.alloc (.cells #[.string s0, .slice a1 n1 c1, .slice a2 n2 c2, .slice a3 n3 c3, .string s4, .slice a4 n4 c4] 27)).heap.size := by rw [World.size_alloc]; exact Nat.lt_succ_self _
  have C0 : Hid (∀ W', Later (w.alloc (.cells #[.string s0, .slice a1 n1 c1, .slice a2 n2 c2, .slice a3 n3 c3, .string s4, .slice a4 n4 c4] 27)) W' → W'.cell? ⟨w.heap.size, 0, none⟩ = some (.string s0) ∧ W'.cell? ⟨w.heap.size, 1, none⟩ = some (.slice a1 n1 c1) ∧ W'.cell? ⟨w.heap.size, 2, none⟩ = some (.slice a2 n2 c2) ∧ W'.cell? ⟨w.heap.size, 3, none⟩ = some (.slice a3 n3 c3) ∧ W'.cell? ⟨w.heap.size, 4, none⟩ = some (.string s4) ∧ W'.cell? ⟨w.heap.size, 5, none⟩ = some (.slice a4 n4 c4)) := Lib.hid (fun W' q => ⟨by rw [q.cell (p := ⟨w.heap.size, 0, none⟩) hW0]; exact q0, by rw [q.cell (p := ⟨w.heap.size, 1, none⟩) hW0]; exact q1, by rw [q.cell (p := ⟨w.heap.size, 2, none⟩) hW0]; exact q2, by rw [q.cell (p := ⟨w.heap.size, 3, none⟩) hW0]; exact q3, by rw [q.cell (p := ⟨w.heap.size, 4, none⟩) hW0]; exact q4, by rw [q.cell (p := ⟨w.heap.size, 5, none⟩) hW0]; exact q5⟩)
  have A0 : Hid (Later w (w.alloc (.cells #[.string s0, .slice a1 n1 c1, .slice a2 n2 c2, .slice a3 n3 c3, .string s4, .slice a4 n4 c4] 27))) := Lib.hid ((Later.refl _).alloc _)
  clear hW0
  have key : (r2 = 1 ∧ V = 1) ∨ (r2 = 0 ∧ r1 = 0 ∧ V = 0) ∨ (r2 = 0 ∧ (r1 == 0) = false ∧ V = 5) := by
    have h1 := HV.out; have h2 := HP1.out; have h3 := HP2.out
    cases b
    · left; exact ⟨h3, h1⟩
    · by_cases hr : r = 0
      · right; left
        rw [if_pos rfl] at h1 h2 h3
        rw [if_pos hr] at h1
        exact ⟨h3, h2.trans hr, h1⟩
      · right; right
        rw [if_pos rfl] at h1 h2 h3
        rw [if_neg hr] at h1
        exact ⟨h3, by rw [h2]; simpa using hr, h1⟩
  clear HV HP1 HP2
  rcases key with ⟨rfl, rfl⟩ | ⟨rfl, rfl, rfl⟩ | ⟨rfl, hr, rfl⟩
  all_goals
    go_enter Tryd.func57, Tryd.ntmps57
    go_wp2_with fail
    generalize (w.alloc (.cells #[.string s0, .slice a1 n1 c1, .slice a2 n2 c2, .slice a3 n3 c3, .string s4, .slice a4 n4 c4] 27)) = W0 at C0 A0 q0 q1 q2 q3 q4 q5 ⊢
    refine (PF.out _ A0.out).mono ?_
    rintro e w1 ⟨rfl, hb⟩
    have B1 := Lib.hid (Later.trans A0.out hb)
    clear hb q0 q1 q2 q3 q4 q5
    go_wp2_with fail
    all_goals
      go_ret
      exact ⟨rfl, B1.out⟩
theorem i_IsSound (base : Nat) (v : Value) (p : Prg) (w : World) (hp : PgC base w v p) (ho : Ops w) (hl : p.lns.length ≤ 1048576) :
    Calls Tryd.prog 19 #[v] w fun e w' => e = .returned (.bool (isS p)) ∧ Later w w' := by
  have PF := Lib.hid (fun W (h : Later w W) => i_soundError base v p W (hp.later h) (ho.later h) hl)
  have HV : Hid (isS p = decide (seV p = 0)) := Lib.hid rfl
  obtain ⟨a1, c1, a2, c2, a3, c3, a4, c4, rfl, _, _, _, _, _, _⟩ := hp.pgv
  clear hp ho hl
  generalize seV p = r at PF HV
  obtain ⟨s0, hs0⟩ : ∃ q, q = tx p.nm := ⟨_, rfl⟩
  obtain ⟨s4, hs4⟩ : ∃ q, q = tx p.grd := ⟨_, rfl⟩
  obtain ⟨n1, hn1⟩ : ∃ q, q = p.ins.length := ⟨_, rfl⟩
  obtain ⟨n2, hn2⟩ : ∃ q, q = p.vrs.length := ⟨_, rfl⟩
  obtain ⟨n3, hn3⟩ : ∃ q, q = p.outs.length := ⟨_, rfl⟩
  obtain ⟨n4, hn4⟩ : ∃ q, q = p.lns.length := ⟨_, rfl⟩
  simp only [← hs0, ← hs4, ← hn1, ← hn2, ← hn3, ← hn4] at PF ⊢
  clear hs0 hs4 hn1 hn2 hn3 hn4
  have q0 : (w.alloc (.cells #[.string s0, .slice a1 n1 c1, .slice a2 n2 c2, .slice a3 n3 c3, .string s4, .slice a4 n4 c4] 27)).cell? ⟨w.heap.size, 0, none⟩ = some (.string s0) := by rw [cell_of_row _ _ 0 _ _ (0, 0) (heap_alloc_new w _)]; rfl
  have q1 : (w.alloc (.cells #[.string s0, .slice a1 n1 c1, .slice a2 n2 c2, .slice a3 n3 c3, .string s4, .slice a4 n4 c4] 27)).cell? ⟨w.heap.size, 1, none⟩ = some (.slice a1 n1 c1) := by rw [cell_of_row _ _ 1 _ _ (0, 0) (heap_alloc_new w _)]; rfl
  have q2 : (w.alloc (.cells #[.string s0, .slice a1 n1 c1, .slice a2 n2 c2, .slice a3 n3 c3, .string s4, .slice a4 n4 c4] 27)).cell? ⟨w.heap.size, 2, none⟩ = some (.slice a2 n2 c2) := by rw [cell_of_row _ _ 2 _ _ (0, 0) (heap_alloc_new w _)]; rfl
  have q3 : (w.alloc (.cells #[.string s0, .slice a1 n1 c1, .slice a2 n2 c2, .slice a3 n3 c3, .string s4, .slice a4 n4 c4] 27)).cell? ⟨w.heap.size, 3, none⟩ = some (.slice a3 n3 c3) := by rw [cell_of_row _ _ 3 _ _ (0, 0) (heap_alloc_new w _)]; rfl
  have q4 : (w.alloc (.cells #[.string s0, .slice a1 n1 c1, .slice a2 n2 c2, .slice a3 n3 c3, .string s4, .slice a4 n4 c4] 27)).cell? ⟨w.heap.size, 4, none⟩ = some (.string s4) := by rw [cell_of_row _ _ 4 _ _ (0, 0) (heap_alloc_new w _)]; rfl
  have q5 : (w.alloc (.cells #[.string s0, .slice a1 n1 c1, .slice a2 n2 c2, .slice a3 n3 c3, .string s4, .slice a4 n4 c4] 27)).cell? ⟨w.heap.size, 5, none⟩ = some (.slice a4 n4 c4) := by rw [cell_of_row _ _ 5 _ _ (0, 0) (heap_alloc_new w _)]; rfl
  have hW0 : w.heap.size < (w.alloc (.cells #[.string s0, .slice a1 n1 c1, .slice a2 n2 c2, .slice a3 n3 c3, .string s4, .slice a4 n4 c4] 27)).heap.size := by rw [World.size_alloc]; exact Nat.lt_succ_self _
  have C0 : Hid (∀ W', Later (w.alloc (.cells #[.string s0, .slice a1 n1 c1, .slice a2 n2 c2, .slice a3 n3 c3, .string s4, .slice a4 n4 c4] 27)) W' → W'.cell? ⟨w.heap.size, 0, none⟩ = some (.string s0) ∧ W'.cell? ⟨w.heap.size, 1, none⟩ = some (.slice a1 n1 c1) ∧ W'.cell? ⟨w.heap.size, 2, none⟩ = some (.slice a2 n2 c2) ∧ W'.cell? ⟨w.heap.size, 3, none⟩ = some (.slice a3 n3 c3) ∧ W'.cell? ⟨w.heap.size, 4, none⟩ = some (.string s4) ∧ W'.cell? ⟨w.heap.size, 5, none⟩ = some (.slice a4 n4 c4)) := Lib.hid (fun W' q => ⟨by rw [q.cell (p := ⟨w.heap.size, 0, none⟩) hW0]; exact q0, by rw [q.cell (p := ⟨w.heap.size, 1, none⟩) hW0]; exact q1, by rw [q.cell (p := ⟨w.heap.size, 2, none⟩) hW0]; exact q2, by rw [q.cell (p := ⟨w.heap.size, 3, none⟩) hW0]; exact q3, by rw [q.cell (p := ⟨w.heap.size, 4, none⟩) hW0]; exact q4, by rw [q.cell (p := ⟨w.heap.size, 5, none⟩) hW0]; exact q5⟩)
  have A0 : Hid (Later w (w.alloc (.cells #[.string s0, .slice a1 n1 c1, .slice a2 n2 c2, .slice a3 n3 c3, .string s4, .slice a4 n4 c4] 27))) := Lib.hid ((Later.refl _).alloc _)
  clear hW0
  go_enter Tryd.func19, Tryd.ntmps19
  go_wp2_with fail
  generalize (w.alloc (.cells #[.string s0, .slice a1 n1 c1, .slice a2 n2 c2, .slice a3 n3 c3, .string s4, .slice a4 n4 c4] 27)) = W0 at C0 A0 q0 q1 q2 q3 q4 q5 ⊢
  refine (PF.out _ A0.out).mono ?_
  rintro e w1 ⟨rfl, hb⟩
  have B1 := Lib.hid (Later.trans A0.out hb)
  clear hb q0 q1 q2 q3 q4 q5
  go_wp2_with fail
  all_goals
    go_ret
    exact ⟨by rw [HV.out]; exact ret_b (by by_cases h : r = 0 <;> simp [h]), B1.out⟩
end Go.Proofs.YtokipobjpinhmaaDoor
namespace Go.Proofs.YtokipobjpinhmaaDoor
open Go
set_option linter.unusedVariables false
set_option linter.unusedSimpArgs false
/-- a name is used in a line up to the one whose target it is -/
def rmB (M : List Lne) (x : List UInt8) : Bool := (List.range (ixV (tgs M) x + 1).toNat).any fun i => usB (lrx M i) x
theorem rmB_hit (M : List Lne) (x : List UInt8) (i : Nat) (h : (i : Int) ≤ ixV (tgs M) x) (hu : usB (lrx M i) x = true) : rmB M x = true :=
  List.any_eq_true.2 ⟨i, by rw [List.mem_range]; omega, hu⟩
theorem rmB_miss (M : List Lne) (x : List UInt8) (h : ∀ i : Nat, (i : Int) ≤ ixV (tgs M) x → usB (lrx M i) x = false) : rmB M x = false := by
  cases hb : rmB M x with
  | false => rfl
  | true =>
    obtain ⟨i, hi, he⟩ := List.any_eq_true.1 hb
    rw [List.mem_range] at hi
    rw [h i (by omega)] at he; cases he
/-- the first line that uses a name -/
theorem usL_head (M : List Lne) (x : List UInt8) : ∀ k, (usL M x k = [] ∧ ∀ i, i < k → usB (lrx M i) x = false) ∨ (∃ i0 r, i0 < k ∧ usL M x k = (i0 : Int) :: r ∧ usB (lrx M i0) x = true ∧ ∀ i, i < i0 → usB (lrx M i) x = false)
  | 0 => .inl ⟨rfl, fun i h => by omega⟩
  | k + 1 => by
    have hs : usL M x (k + 1) = if usB (lrx M k) x = true then usL M x k ++ [(k : Int)] else usL M x k := rfl
    rw [hs]
    rcases usL_head M x k with ⟨h1, h2⟩ | ⟨i0, r, h0, h1, h2, h3⟩
    · by_cases hu : usB (lrx M k) x = true
      · right
        rw [if_pos hu, h1]
        exact ⟨k, [], by omega, rfl, hu, h2⟩
      · left
        rw [if_neg hu]
        refine ⟨h1, fun i hi => ?_⟩
        rcases Nat.lt_or_ge i k with h | h
        · exact h2 i h
        · obtain rfl : i = k := by omega
          simpa using hu
    · right
      split
      · exact ⟨i0, r ++ [(k : Int)], by omega, by rw [h1]; rfl, h2, h3⟩
      · exact ⟨i0, r, by omega, h1, h2, h3⟩
theorem rmB_uses (M : List Lne) (x : List UInt8) (hlen : ixV (tgs M) x < (M.length : Int)) : rmB M x = (decide (0 < (useV M x).length) && decide ((useV M x).getD 0 0 ≤ ixV (tgs M) x)) := by
  unfold useV
  rcases usL_head M x M.length with ⟨h1, h2⟩ | ⟨i0, r, h0, h1, h2, h3⟩
  · rw [h1]
    rw [rmB_miss M x (fun i hi => h2 i (by omega))]; rfl
  · rw [h1]
    by_cases hi : (i0 : Int) ≤ ixV (tgs M) x
    · rw [rmB_hit M x i0 hi h2]; simp; exact hi
    · rw [rmB_miss M x (fun i h => h3 i (by omega))]; simp; omega
def rmV (p : Prg) : List (List UInt8) := p.vrs.filter (rmB p.lns)
/-- a name is not the guard, and no line uses it -/
def unB (p : Prg) (x : List UInt8) : Bool := !decide (x = p.grd) && decide ((useV p.lns x).length = 0)
def unV (p : Prg) : List (List UInt8) := (p.ins ++ p.vrs).filter (unB p)
theorem fil_take (W : List (List UInt8)) (H : List UInt8 → Bool) (j : Nat) (h : j < W.length) : (W.take (j + 1)).filter H = if H (wx W j) = true then (W.take j).filter H ++ [wx W j] else (W.take j).filter H := by
  rw [List.take_succ_eq_append_getElem h, wx_at W j h, List.filter_append]
  by_cases e : H (wx W j) = true <;> simp [e]
theorem fil_len (W : List (List UInt8)) (H : List UInt8 → Bool) : (W.filter H).length ≤ W.length := List.length_filter_le _ _
theorem unB_uses (p : Prg) (x : List UInt8) (h1 : x ≠ p.grd) (h2 : ∀ i, i < p.lns.length → usB (lrx p.lns i) x = false) : unB p x = true := by
  unfold unB useV
  rcases usL_head p.lns x p.lns.length with ⟨h, _⟩ | ⟨i0, r, h0, _, h3, _⟩
  · rw [h]; simp [h1]
  · rw [h2 i0 h0] at h3; cases h3
theorem unB_no (p : Prg) (x : List UInt8) (i : Nat) (hi : i < p.lns.length) (h : usB (lrx p.lns i) x = true) : unB p x = false := by
  unfold unB useV
  rcases usL_head p.lns x p.lns.length with ⟨_, h2⟩ | ⟨i0, r, h0, h1, _, _⟩
  · rw [h2 i hi] at h; cases h
  · rw [h1]; simp
theorem unB_grd (p : Prg) (x : List UInt8) (h : x = p.grd) : unB p x = false := by unfold unB; simp [h]
end Go.Proofs.YtokipobjpinhmaaDoor
namespace Go.Proofs.YtokipobjpinhmaaDoor
open Go.RowKit Go.Shelf
set_option maxHeartbeats 4000000
set_option maxRecDepth 100000
set_option linter.unusedVariables false
set_option linter.unusedSimpArgs false
def clonS_ren : Go.Shelf.Ren := ⟨fun | 316 => 123 | n => n, fun | 9 => 9 | 3 => 3 | 4 => 4 | 37 => 22 | 0 => 0 | 127 => 132 | 5 => 5 | n => n, fun | n => n⟩
theorem clonS : Go.Proofs.LaysM.n316 Tryd.prog clonS_ren := {
  mixed := by kernel_rfl
  f316 := Tryd.func123.trans (congrArg some (by kernel_rfl))
  t0 := Tryd.underlying0
  a0 := Tryd.isAgg0
  z0 := Tryd.sizeOf0
  v0 := Tryd.zeroValue0
  t3 := Tryd.underlying3
  a3 := Tryd.isAgg3
  z3 := Tryd.sizeOf3
  v3 := Tryd.zeroValue3
  t4 := Tryd.underlying4
  a4 := Tryd.isAgg4
  z4 := Tryd.sizeOf4
  v4 := Tryd.zeroValue4
  t9 := Tryd.underlying9
  a9 := Tryd.isAgg9
  z9 := Tryd.sizeOf9
  v9 := Tryd.zeroValue9
  t37 := Tryd.underlying22
  a37 := Tryd.isAgg22
  z37 := Tryd.sizeOf22
  v37 := Tryd.zeroValue22
  t127 := Tryd.underlying132
  a127 := Tryd.isAgg132
  z127 := Tryd.sizeOf132
  v127 := Tryd.zeroValue132
  t5 := Tryd.underlying5
  a5 := Tryd.isAgg5
  z5 := Tryd.sizeOf5
  v5 := Tryd.zeroValue5
  i0 := by kernel_rfl
  i3 := by kernel_rfl
  i4 := by kernel_rfl
  i5 := by kernel_rfl
  i9 := by kernel_rfl
  i37 := by kernel_rfl
  i127 := by kernel_rfl }
open Go.RowKit in
theorem i_CloneN (t : List UInt8) (w : World) (ht : t.length ≤ 1048576) : Calls Tryd.prog 101 #[.string (tx t)] w fun e w' => e = .returned (.string (tx t)) ∧ Later w w' := by
  have hz : (tx t).size ≤ 281474976710656 := by rw [tx_size]; omega
  have C := Lib.hid (Any.stringslite_Clone clonS (tx t) w hz)
  clear hz
  go_enter Tryd.func101, Tryd.ntmps101
  go_wp2_with (go_at_call 123; refine C.out.mono ?_; rintro e w1 ⟨rfl, hb⟩; have B1 := Lib.hid hb; clear hb)
  go_ret
  exact ⟨rfl, B1.out⟩
end Go.Proofs.YtokipobjpinhmaaDoor
