/- Programs that are written: IsWritten, of the program and of the model. | Programs that are written: IsWritten of the model. | LineOf, of the program and of the model. | Names of a program: declared, assigned, read, used: the program's methods. | Lines that use a name: UsesOf, of the program and of the model. | The laws' helpers on programs: marks. | The laws' helpers on programs: markProgram. | Marks that the exact laws write into lists of int64, and find again. | Slices of int64 compared, as the exact laws do. | The walk of the exact law on UsesOf. -/
import Derived.Test.YtokipobjpinhmaaDoorPsWi
import Derived.Test.YtokipobjpinhmaaDoorPsWb
import Derived.Test.YtokipobjpinhmaaDoorPuT
import Derived.Test.YtokipobjpinhmaaDoorPuC
import Derived.Test.YtokipobjpinhmaaDoorOwn
import Derived.Test.YtokipobjpinhmaaDoorPsWa
import Derived.Test.YtokipobjpinhmaaDoorTkF
import Derived.Test.YtokipobjpinhmaaDoorSl
namespace Go.Proofs.YtokipobjpinhmaaDoor
open Go.RowKit Go.Shelf
set_option maxHeartbeats 16000000
set_option maxRecDepth 100000
set_option linter.unusedVariables false
set_option linter.unusedSimpArgs false
theorem i_IsWritten (v : Value) (p : Prg) (w : World) (hp : PgV w v p) (ho : Ops w) (hl : p.lns.length ≤ 1000000000) : Calls Tryd.prog 49 #[v] w fun e w' => e = .returned (.bool (wrtB p)) ∧ Later w w' := by
  obtain ⟨a1, c1, a2, c2, a3, c3, a4, c4, rfl, h1, h2, h3, h4, h5, h6⟩ := hp
  have P1 := Lib.hid h1; have P2 := Lib.hid h2; have P3 := Lib.hid h3; have P4 := Lib.hid h4
  have HO := Lib.hid ho
  have N0 : Hid (∀ W, Calls Tryd.prog 78 #[.string (tx p.nm)] W fun e w' => e = .returned (.bool (nmB p.nm)) ∧ Later W w') := Lib.hid (fun W => i_isName (tx p.nm) W h5)
  have N4 : Hid (∀ W, Calls Tryd.prog 78 #[.string (tx p.grd)] W fun e w' => e = .returned (.bool (nmB p.grd)) ∧ Later W w') := Lib.hid (fun W => i_isName (tx p.grd) W h6)
  have A1 := Lib.hid (fun W h => i_areNames a1 p.ins.length c1 p.ins W h)
  have A2 := Lib.hid (fun W h => i_areNames a2 p.vrs.length c2 p.vrs W h)
  have A3 := Lib.hid (fun W h => i_areNames a3 p.outs.length c3 p.outs W h)
  have A4 := Lib.hid (fun W h ho => i_areLines a4 p.lns.length c4 p.lns W h ho)
  have EG : ((tx p.grd).toList.isEmpty) = decide (p.grd = []) := by
    rw [Lib.toList_data]
    show p.grd.isEmpty = _
    cases p.grd <;> simp
  have HW : Hid (wrtB p = (nmB p.nm && (decide (p.grd = []) || nmB p.grd) && decide (1 ≤ p.ins.length) && decide (1 ≤ p.outs.length) && nmsB p.ins && nmsB p.vrs && nmsB p.outs && lnsB p.lns)) := Lib.hid rfl
  have hn1 := P1.out.2.1; have hn3 := P3.out.2.1
  obtain ⟨s0, hs0⟩ : ∃ q, q = tx p.nm := ⟨_, rfl⟩
  obtain ⟨s4, hs4⟩ : ∃ q, q = tx p.grd := ⟨_, rfl⟩
  obtain ⟨n1, hn1q⟩ : ∃ q, q = p.ins.length := ⟨_, rfl⟩
  obtain ⟨n2, hn2q⟩ : ∃ q, q = p.vrs.length := ⟨_, rfl⟩
  obtain ⟨n3, hn3q⟩ : ∃ q, q = p.outs.length := ⟨_, rfl⟩
  obtain ⟨n4, hn4q⟩ : ∃ q, q = p.lns.length := ⟨_, rfl⟩
  obtain ⟨b0, hb0⟩ : ∃ q, q = nmB p.nm := ⟨_, rfl⟩
  obtain ⟨b4, hb4⟩ : ∃ q, q = nmB p.grd := ⟨_, rfl⟩
  obtain ⟨g0, hg0⟩ : ∃ q, q = decide (p.grd = []) := ⟨_, rfl⟩
  obtain ⟨b1, hb1⟩ : ∃ q, q = nmsB p.ins := ⟨_, rfl⟩
  obtain ⟨b2, hb2⟩ : ∃ q, q = nmsB p.vrs := ⟨_, rfl⟩
  obtain ⟨b3, hb3⟩ : ∃ q, q = nmsB p.outs := ⟨_, rfl⟩
  obtain ⟨b5, hb5⟩ : ∃ q, q = lnsB p.lns := ⟨_, rfl⟩
  rw [← hs0] at N0; rw [← hs4] at N4 EG; rw [← hb0] at N0 HW; rw [← hb4] at N4 HW; rw [← hg0] at EG HW; rw [← hb1] at A1 HW; rw [← hb2] at A2 HW; rw [← hb3] at A3 HW; rw [← hb5] at A4 HW
  rw [← hn1q] at A1 P1 HW hn1; rw [← hn2q] at A2 P2; rw [← hn3q] at A3 P3 HW hn3; rw [← hn4q] at A4 P4
  rw [← hs0, ← hs4, ← hn1q, ← hn2q, ← hn3q, ← hn4q]
  clear hs0 hs4 hn1q hn2q hn3q hn4q hb0 hb4 hg0 hb1 hb2 hb3 hb5 h1 h2 h3 h4 h5 h6 ho hl
  have q0 : (w.alloc (.cells #[.string s0, .slice a1 n1 c1, .slice a2 n2 c2, .slice a3 n3 c3, .string s4, .slice a4 n4 c4] 27)).cell? ⟨w.heap.size, 0, none⟩ = some (.string s0) := by rw [cell_of_row _ _ 0 _ _ (0, 0) (heap_alloc_new w _)]; rfl
  have q1 : (w.alloc (.cells #[.string s0, .slice a1 n1 c1, .slice a2 n2 c2, .slice a3 n3 c3, .string s4, .slice a4 n4 c4] 27)).cell? ⟨w.heap.size, 1, none⟩ = some (.slice a1 n1 c1) := by rw [cell_of_row _ _ 1 _ _ (0, 0) (heap_alloc_new w _)]; rfl
  have q2 : (w.alloc (.cells #[.string s0, .slice a1 n1 c1, .slice a2 n2 c2, .slice a3 n3 c3, .string s4, .slice a4 n4 c4] 27)).cell? ⟨w.heap.size, 2, none⟩ = some (.slice a2 n2 c2) := by rw [cell_of_row _ _ 2 _ _ (0, 0) (heap_alloc_new w _)]; rfl
  have q3 : (w.alloc (.cells #[.string s0, .slice a1 n1 c1, .slice a2 n2 c2, .slice a3 n3 c3, .string s4, .slice a4 n4 c4] 27)).cell? ⟨w.heap.size, 3, none⟩ = some (.slice a3 n3 c3) := by rw [cell_of_row _ _ 3 _ _ (0, 0) (heap_alloc_new w _)]; rfl
  have q4 : (w.alloc (.cells #[.string s0, .slice a1 n1 c1, .slice a2 n2 c2, .slice a3 n3 c3, .string s4, .slice a4 n4 c4] 27)).cell? ⟨w.heap.size, 4, none⟩ = some (.string s4) := by rw [cell_of_row _ _ 4 _ _ (0, 0) (heap_alloc_new w _)]; rfl
  have q5 : (w.alloc (.cells #[.string s0, .slice a1 n1 c1, .slice a2 n2 c2, .slice a3 n3 c3, .string s4, .slice a4 n4 c4] 27)).cell? ⟨w.heap.size, 5, none⟩ = some (.slice a4 n4 c4) := by rw [cell_of_row _ _ 5 _ _ (0, 0) (heap_alloc_new w _)]; rfl
  have hW0 : w.heap.size < (w.alloc (.cells #[.string s0, .slice a1 n1 c1, .slice a2 n2 c2, .slice a3 n3 c3, .string s4, .slice a4 n4 c4] 27)).heap.size := by rw [World.size_alloc]; exact Nat.lt_succ_self _
  have C0 : Hid (∀ W', Later (w.alloc (.cells #[.string s0, .slice a1 n1 c1, .slice a2 n2 c2, .slice a3 n3 c3, .string s4, .slice a4 n4 c4] 27)) W' → W'.cell? ⟨w.heap.size, 0, none⟩ = some (.string s0) ∧ W'.cell? ⟨w.heap.size, 1, none⟩ = some (.slice a1 n1 c1) ∧ W'.cell? ⟨w.heap.size, 2, none⟩ = some (.slice a2 n2 c2) ∧ W'.cell? ⟨w.heap.size, 3, none⟩ = some (.slice a3 n3 c3) ∧ W'.cell? ⟨w.heap.size, 4, none⟩ = some (.string s4) ∧ W'.cell? ⟨w.heap.size, 5, none⟩ = some (.slice a4 n4 c4)) := Lib.hid (fun W' q => ⟨by rw [q.cell (p := ⟨w.heap.size, 0, none⟩) hW0]; exact q0, by rw [q.cell (p := ⟨w.heap.size, 1, none⟩) hW0]; exact q1, by rw [q.cell (p := ⟨w.heap.size, 2, none⟩) hW0]; exact q2, by rw [q.cell (p := ⟨w.heap.size, 3, none⟩) hW0]; exact q3, by rw [q.cell (p := ⟨w.heap.size, 4, none⟩) hW0]; exact q4, by rw [q.cell (p := ⟨w.heap.size, 5, none⟩) hW0]; exact q5⟩)
  have A0 : Hid (Later w (w.alloc (.cells #[.string s0, .slice a1 n1 c1, .slice a2 n2 c2, .slice a3 n3 c3, .string s4, .slice a4 n4 c4] 27))) := Lib.hid ((Later.refl _).alloc _)
  clear hW0
  go_enter Tryd.func49, Tryd.ntmps49
  go_wp2_with fail
  generalize w.alloc (.cells #[.string s0, .slice a1 n1 c1, .slice a2 n2 c2, .slice a3 n3 c3, .string s4, .slice a4 n4 c4] 27) = W0 at C0 A0 q0 q1 q2 q3 q4 q5 ⊢
  clear q0 q1 q2 q3 q4 q5
  refine (N0.out _).mono ?_
  rintro e w1 ⟨rfl, hb⟩
  have L1 := Lib.hid (show Later W0 w1 from hb)
  obtain ⟨q0, q1, q2, q3, q4, q5⟩ := C0.out _ hb
  clear hb
  cases b0
  · have HWF : Hid (wrtB p = false) := Lib.hid (by rw [HW.out]; rfl)
    go_wp2_with fail
    all_goals
      go_ret
      exact ⟨by rw [HWF.out]; rfl, Later.trans A0.out L1.out⟩
  · cases g0
    · cases b4
      · have HWF : Hid (wrtB p = false) := Lib.hid (by rw [HW.out]; rfl)
        go_wp2_with (first
    | (go_at_call 78; refine (N4.out _).mono ?_; rintro e w2 ⟨rfl, hb⟩; have LW := Lib.hid (Later.trans (show Later W0 _ from (Hid.out (by assumption))) hb); obtain ⟨q0, q1, q2, q3, q4, q5⟩ := C0.out _ LW.out; clear hb)
    | (go_at_call_of 88 a1; refine (A1.out _ (P1.out.later (Later.trans A0.out (Hid.out (by assumption))))).mono ?_; rintro e w2 ⟨rfl, hb⟩; have LW := Lib.hid (Later.trans (show Later W0 _ from (Hid.out (by assumption))) hb); obtain ⟨q0, q1, q2, q3, q4, q5⟩ := C0.out _ LW.out; clear hb)
    | (go_at_call_of 88 a2; refine (A2.out _ (P2.out.later (Later.trans A0.out (Hid.out (by assumption))))).mono ?_; rintro e w2 ⟨rfl, hb⟩; have LW := Lib.hid (Later.trans (show Later W0 _ from (Hid.out (by assumption))) hb); obtain ⟨q0, q1, q2, q3, q4, q5⟩ := C0.out _ LW.out; clear hb)
    | (go_at_call_of 88 a3; refine (A3.out _ (P3.out.later (Later.trans A0.out (Hid.out (by assumption))))).mono ?_; rintro e w2 ⟨rfl, hb⟩; have LW := Lib.hid (Later.trans (show Later W0 _ from (Hid.out (by assumption))) hb); obtain ⟨q0, q1, q2, q3, q4, q5⟩ := C0.out _ LW.out; clear hb)
    | (go_at_call 89; refine (A4.out _ (P4.out.later (Later.trans A0.out (Hid.out (by assumption)))) (HO.out.later (Later.trans A0.out (Hid.out (by assumption))))).mono ?_; rintro e w2 ⟨rfl, hb⟩; have LW := Lib.hid (Later.trans (show Later W0 _ from (Hid.out (by assumption))) hb); obtain ⟨q0, q1, q2, q3, q4, q5⟩ := C0.out _ LW.out; clear hb))
        all_goals
          go_ret
          exact ⟨by rw [HWF.out]; rfl, Later.trans A0.out (Hid.out (by assumption))⟩
      · have HW := Lib.hid HW.out
        rcases (show n1 = 0 ∨ (1 ≤ n1 ∧ n3 = 0) ∨ (1 ≤ n1 ∧ 1 ≤ n3) by omega) with h | ⟨h, h'⟩ | ⟨h, h'⟩
        · subst h
          go_wp2_with (first
    | (go_at_call 78; refine (N4.out _).mono ?_; rintro e w2 ⟨rfl, hb⟩; have LW := Lib.hid (Later.trans (show Later W0 _ from (Hid.out (by assumption))) hb); obtain ⟨q0, q1, q2, q3, q4, q5⟩ := C0.out _ LW.out; clear hb)
    | (go_at_call_of 88 a1; refine (A1.out _ (P1.out.later (Later.trans A0.out (Hid.out (by assumption))))).mono ?_; rintro e w2 ⟨rfl, hb⟩; have LW := Lib.hid (Later.trans (show Later W0 _ from (Hid.out (by assumption))) hb); obtain ⟨q0, q1, q2, q3, q4, q5⟩ := C0.out _ LW.out; clear hb)
    | (go_at_call_of 88 a2; refine (A2.out _ (P2.out.later (Later.trans A0.out (Hid.out (by assumption))))).mono ?_; rintro e w2 ⟨rfl, hb⟩; have LW := Lib.hid (Later.trans (show Later W0 _ from (Hid.out (by assumption))) hb); obtain ⟨q0, q1, q2, q3, q4, q5⟩ := C0.out _ LW.out; clear hb)
    | (go_at_call_of 88 a3; refine (A3.out _ (P3.out.later (Later.trans A0.out (Hid.out (by assumption))))).mono ?_; rintro e w2 ⟨rfl, hb⟩; have LW := Lib.hid (Later.trans (show Later W0 _ from (Hid.out (by assumption))) hb); obtain ⟨q0, q1, q2, q3, q4, q5⟩ := C0.out _ LW.out; clear hb)
    | (go_at_call 89; refine (A4.out _ (P4.out.later (Later.trans A0.out (Hid.out (by assumption)))) (HO.out.later (Later.trans A0.out (Hid.out (by assumption))))).mono ?_; rintro e w2 ⟨rfl, hb⟩; have LW := Lib.hid (Later.trans (show Later W0 _ from (Hid.out (by assumption))) hb); obtain ⟨q0, q1, q2, q3, q4, q5⟩ := C0.out _ LW.out; clear hb))
          all_goals
            go_ret
            exact ⟨by rw [HW.out]; rfl, Later.trans A0.out (Hid.out (by assumption))⟩
        · subst h'
          rw [decide_eq_true h] at HW
          have e1 : ((n1 : Int) == 0) = false := by simp; omega
          go_wp2_with (first
    | (go_at_call 78; refine (N4.out _).mono ?_; rintro e w2 ⟨rfl, hb⟩; have LW := Lib.hid (Later.trans (show Later W0 _ from (Hid.out (by assumption))) hb); obtain ⟨q0, q1, q2, q3, q4, q5⟩ := C0.out _ LW.out; clear hb)
    | (go_at_call_of 88 a1; refine (A1.out _ (P1.out.later (Later.trans A0.out (Hid.out (by assumption))))).mono ?_; rintro e w2 ⟨rfl, hb⟩; have LW := Lib.hid (Later.trans (show Later W0 _ from (Hid.out (by assumption))) hb); obtain ⟨q0, q1, q2, q3, q4, q5⟩ := C0.out _ LW.out; clear hb)
    | (go_at_call_of 88 a2; refine (A2.out _ (P2.out.later (Later.trans A0.out (Hid.out (by assumption))))).mono ?_; rintro e w2 ⟨rfl, hb⟩; have LW := Lib.hid (Later.trans (show Later W0 _ from (Hid.out (by assumption))) hb); obtain ⟨q0, q1, q2, q3, q4, q5⟩ := C0.out _ LW.out; clear hb)
    | (go_at_call_of 88 a3; refine (A3.out _ (P3.out.later (Later.trans A0.out (Hid.out (by assumption))))).mono ?_; rintro e w2 ⟨rfl, hb⟩; have LW := Lib.hid (Later.trans (show Later W0 _ from (Hid.out (by assumption))) hb); obtain ⟨q0, q1, q2, q3, q4, q5⟩ := C0.out _ LW.out; clear hb)
    | (go_at_call 89; refine (A4.out _ (P4.out.later (Later.trans A0.out (Hid.out (by assumption)))) (HO.out.later (Later.trans A0.out (Hid.out (by assumption))))).mono ?_; rintro e w2 ⟨rfl, hb⟩; have LW := Lib.hid (Later.trans (show Later W0 _ from (Hid.out (by assumption))) hb); obtain ⟨q0, q1, q2, q3, q4, q5⟩ := C0.out _ LW.out; clear hb))
          all_goals
            go_ret
            exact ⟨by rw [HW.out]; rfl, Later.trans A0.out (Hid.out (by assumption))⟩
        · rw [decide_eq_true h, decide_eq_true h'] at HW
          have e1 : ((n1 : Int) == 0) = false := by simp; omega
          have e3 : ((n3 : Int) == 0) = false := by simp; omega
          clear h h'
          cases b1
          · have HW : Hid (wrtB p = false) := Lib.hid (by rw [HW.out]; rfl)
            go_wp2_with (first
    | (go_at_call 78; refine (N4.out _).mono ?_; rintro e w2 ⟨rfl, hb⟩; have LW := Lib.hid (Later.trans (show Later W0 _ from (Hid.out (by assumption))) hb); obtain ⟨q0, q1, q2, q3, q4, q5⟩ := C0.out _ LW.out; clear hb)
    | (go_at_call_of 88 a1; refine (A1.out _ (P1.out.later (Later.trans A0.out (Hid.out (by assumption))))).mono ?_; rintro e w2 ⟨rfl, hb⟩; have LW := Lib.hid (Later.trans (show Later W0 _ from (Hid.out (by assumption))) hb); obtain ⟨q0, q1, q2, q3, q4, q5⟩ := C0.out _ LW.out; clear hb)
    | (go_at_call_of 88 a2; refine (A2.out _ (P2.out.later (Later.trans A0.out (Hid.out (by assumption))))).mono ?_; rintro e w2 ⟨rfl, hb⟩; have LW := Lib.hid (Later.trans (show Later W0 _ from (Hid.out (by assumption))) hb); obtain ⟨q0, q1, q2, q3, q4, q5⟩ := C0.out _ LW.out; clear hb)
    | (go_at_call_of 88 a3; refine (A3.out _ (P3.out.later (Later.trans A0.out (Hid.out (by assumption))))).mono ?_; rintro e w2 ⟨rfl, hb⟩; have LW := Lib.hid (Later.trans (show Later W0 _ from (Hid.out (by assumption))) hb); obtain ⟨q0, q1, q2, q3, q4, q5⟩ := C0.out _ LW.out; clear hb)
    | (go_at_call 89; refine (A4.out _ (P4.out.later (Later.trans A0.out (Hid.out (by assumption)))) (HO.out.later (Later.trans A0.out (Hid.out (by assumption))))).mono ?_; rintro e w2 ⟨rfl, hb⟩; have LW := Lib.hid (Later.trans (show Later W0 _ from (Hid.out (by assumption))) hb); obtain ⟨q0, q1, q2, q3, q4, q5⟩ := C0.out _ LW.out; clear hb))
            all_goals
              go_ret
              exact ⟨by rw [HW.out]; rfl, Later.trans A0.out (Hid.out (by assumption))⟩
          · cases b2
            · have HW : Hid (wrtB p = false) := Lib.hid (by rw [HW.out]; rfl)
              go_wp2_with (first
    | (go_at_call 78; refine (N4.out _).mono ?_; rintro e w2 ⟨rfl, hb⟩; have LW := Lib.hid (Later.trans (show Later W0 _ from (Hid.out (by assumption))) hb); obtain ⟨q0, q1, q2, q3, q4, q5⟩ := C0.out _ LW.out; clear hb)
    | (go_at_call_of 88 a1; refine (A1.out _ (P1.out.later (Later.trans A0.out (Hid.out (by assumption))))).mono ?_; rintro e w2 ⟨rfl, hb⟩; have LW := Lib.hid (Later.trans (show Later W0 _ from (Hid.out (by assumption))) hb); obtain ⟨q0, q1, q2, q3, q4, q5⟩ := C0.out _ LW.out; clear hb)
    | (go_at_call_of 88 a2; refine (A2.out _ (P2.out.later (Later.trans A0.out (Hid.out (by assumption))))).mono ?_; rintro e w2 ⟨rfl, hb⟩; have LW := Lib.hid (Later.trans (show Later W0 _ from (Hid.out (by assumption))) hb); obtain ⟨q0, q1, q2, q3, q4, q5⟩ := C0.out _ LW.out; clear hb)
    | (go_at_call_of 88 a3; refine (A3.out _ (P3.out.later (Later.trans A0.out (Hid.out (by assumption))))).mono ?_; rintro e w2 ⟨rfl, hb⟩; have LW := Lib.hid (Later.trans (show Later W0 _ from (Hid.out (by assumption))) hb); obtain ⟨q0, q1, q2, q3, q4, q5⟩ := C0.out _ LW.out; clear hb)
    | (go_at_call 89; refine (A4.out _ (P4.out.later (Later.trans A0.out (Hid.out (by assumption)))) (HO.out.later (Later.trans A0.out (Hid.out (by assumption))))).mono ?_; rintro e w2 ⟨rfl, hb⟩; have LW := Lib.hid (Later.trans (show Later W0 _ from (Hid.out (by assumption))) hb); obtain ⟨q0, q1, q2, q3, q4, q5⟩ := C0.out _ LW.out; clear hb))
              all_goals
                go_ret
                exact ⟨by rw [HW.out]; rfl, Later.trans A0.out (Hid.out (by assumption))⟩
            · cases b3
              · have HW : Hid (wrtB p = false) := Lib.hid (by rw [HW.out]; rfl)
                go_wp2_with (first
    | (go_at_call 78; refine (N4.out _).mono ?_; rintro e w2 ⟨rfl, hb⟩; have LW := Lib.hid (Later.trans (show Later W0 _ from (Hid.out (by assumption))) hb); obtain ⟨q0, q1, q2, q3, q4, q5⟩ := C0.out _ LW.out; clear hb)
    | (go_at_call_of 88 a1; refine (A1.out _ (P1.out.later (Later.trans A0.out (Hid.out (by assumption))))).mono ?_; rintro e w2 ⟨rfl, hb⟩; have LW := Lib.hid (Later.trans (show Later W0 _ from (Hid.out (by assumption))) hb); obtain ⟨q0, q1, q2, q3, q4, q5⟩ := C0.out _ LW.out; clear hb)
    | (go_at_call_of 88 a2; refine (A2.out _ (P2.out.later (Later.trans A0.out (Hid.out (by assumption))))).mono ?_; rintro e w2 ⟨rfl, hb⟩; have LW := Lib.hid (Later.trans (show Later W0 _ from (Hid.out (by assumption))) hb); obtain ⟨q0, q1, q2, q3, q4, q5⟩ := C0.out _ LW.out; clear hb)
    | (go_at_call_of 88 a3; refine (A3.out _ (P3.out.later (Later.trans A0.out (Hid.out (by assumption))))).mono ?_; rintro e w2 ⟨rfl, hb⟩; have LW := Lib.hid (Later.trans (show Later W0 _ from (Hid.out (by assumption))) hb); obtain ⟨q0, q1, q2, q3, q4, q5⟩ := C0.out _ LW.out; clear hb)
    | (go_at_call 89; refine (A4.out _ (P4.out.later (Later.trans A0.out (Hid.out (by assumption)))) (HO.out.later (Later.trans A0.out (Hid.out (by assumption))))).mono ?_; rintro e w2 ⟨rfl, hb⟩; have LW := Lib.hid (Later.trans (show Later W0 _ from (Hid.out (by assumption))) hb); obtain ⟨q0, q1, q2, q3, q4, q5⟩ := C0.out _ LW.out; clear hb))
                all_goals
                  go_ret
                  exact ⟨by rw [HW.out]; rfl, Later.trans A0.out (Hid.out (by assumption))⟩
              · have HW : Hid (wrtB p = b5) := Lib.hid (by rw [HW.out]; rfl)
                go_wp2_with (first
    | (go_at_call 78; refine (N4.out _).mono ?_; rintro e w2 ⟨rfl, hb⟩; have LW := Lib.hid (Later.trans (show Later W0 _ from (Hid.out (by assumption))) hb); obtain ⟨q0, q1, q2, q3, q4, q5⟩ := C0.out _ LW.out; clear hb)
    | (go_at_call_of 88 a1; refine (A1.out _ (P1.out.later (Later.trans A0.out (Hid.out (by assumption))))).mono ?_; rintro e w2 ⟨rfl, hb⟩; have LW := Lib.hid (Later.trans (show Later W0 _ from (Hid.out (by assumption))) hb); obtain ⟨q0, q1, q2, q3, q4, q5⟩ := C0.out _ LW.out; clear hb)
    | (go_at_call_of 88 a2; refine (A2.out _ (P2.out.later (Later.trans A0.out (Hid.out (by assumption))))).mono ?_; rintro e w2 ⟨rfl, hb⟩; have LW := Lib.hid (Later.trans (show Later W0 _ from (Hid.out (by assumption))) hb); obtain ⟨q0, q1, q2, q3, q4, q5⟩ := C0.out _ LW.out; clear hb)
    | (go_at_call_of 88 a3; refine (A3.out _ (P3.out.later (Later.trans A0.out (Hid.out (by assumption))))).mono ?_; rintro e w2 ⟨rfl, hb⟩; have LW := Lib.hid (Later.trans (show Later W0 _ from (Hid.out (by assumption))) hb); obtain ⟨q0, q1, q2, q3, q4, q5⟩ := C0.out _ LW.out; clear hb)
    | (go_at_call 89; refine (A4.out _ (P4.out.later (Later.trans A0.out (Hid.out (by assumption)))) (HO.out.later (Later.trans A0.out (Hid.out (by assumption))))).mono ?_; rintro e w2 ⟨rfl, hb⟩; have LW := Lib.hid (Later.trans (show Later W0 _ from (Hid.out (by assumption))) hb); obtain ⟨q0, q1, q2, q3, q4, q5⟩ := C0.out _ LW.out; clear hb))
                all_goals
                  go_ret
                  exact ⟨by rw [HW.out]; rfl, Later.trans A0.out (Hid.out (by assumption))⟩
    · have HW : Hid (wrtB p = (true && (true || true) && decide (1 ≤ n1) && decide (1 ≤ n3) && b1 && b2 && b3 && b5)) := Lib.hid (by rw [HW.out]; rfl)
      rcases (show n1 = 0 ∨ (1 ≤ n1 ∧ n3 = 0) ∨ (1 ≤ n1 ∧ 1 ≤ n3) by omega) with h | ⟨h, h'⟩ | ⟨h, h'⟩
      · subst h
        go_wp2_with (first
    | (go_at_call 78; refine (N4.out _).mono ?_; rintro e w2 ⟨rfl, hb⟩; have LW := Lib.hid (Later.trans (show Later W0 _ from (Hid.out (by assumption))) hb); obtain ⟨q0, q1, q2, q3, q4, q5⟩ := C0.out _ LW.out; clear hb)
    | (go_at_call_of 88 a1; refine (A1.out _ (P1.out.later (Later.trans A0.out (Hid.out (by assumption))))).mono ?_; rintro e w2 ⟨rfl, hb⟩; have LW := Lib.hid (Later.trans (show Later W0 _ from (Hid.out (by assumption))) hb); obtain ⟨q0, q1, q2, q3, q4, q5⟩ := C0.out _ LW.out; clear hb)
    | (go_at_call_of 88 a2; refine (A2.out _ (P2.out.later (Later.trans A0.out (Hid.out (by assumption))))).mono ?_; rintro e w2 ⟨rfl, hb⟩; have LW := Lib.hid (Later.trans (show Later W0 _ from (Hid.out (by assumption))) hb); obtain ⟨q0, q1, q2, q3, q4, q5⟩ := C0.out _ LW.out; clear hb)
    | (go_at_call_of 88 a3; refine (A3.out _ (P3.out.later (Later.trans A0.out (Hid.out (by assumption))))).mono ?_; rintro e w2 ⟨rfl, hb⟩; have LW := Lib.hid (Later.trans (show Later W0 _ from (Hid.out (by assumption))) hb); obtain ⟨q0, q1, q2, q3, q4, q5⟩ := C0.out _ LW.out; clear hb)
    | (go_at_call 89; refine (A4.out _ (P4.out.later (Later.trans A0.out (Hid.out (by assumption)))) (HO.out.later (Later.trans A0.out (Hid.out (by assumption))))).mono ?_; rintro e w2 ⟨rfl, hb⟩; have LW := Lib.hid (Later.trans (show Later W0 _ from (Hid.out (by assumption))) hb); obtain ⟨q0, q1, q2, q3, q4, q5⟩ := C0.out _ LW.out; clear hb))
        all_goals
          go_ret
          exact ⟨by rw [HW.out]; rfl, Later.trans A0.out (Hid.out (by assumption))⟩
      · subst h'
        rw [decide_eq_true h] at HW
        have e1 : ((n1 : Int) == 0) = false := by simp; omega
        go_wp2_with (first
    | (go_at_call 78; refine (N4.out _).mono ?_; rintro e w2 ⟨rfl, hb⟩; have LW := Lib.hid (Later.trans (show Later W0 _ from (Hid.out (by assumption))) hb); obtain ⟨q0, q1, q2, q3, q4, q5⟩ := C0.out _ LW.out; clear hb)
    | (go_at_call_of 88 a1; refine (A1.out _ (P1.out.later (Later.trans A0.out (Hid.out (by assumption))))).mono ?_; rintro e w2 ⟨rfl, hb⟩; have LW := Lib.hid (Later.trans (show Later W0 _ from (Hid.out (by assumption))) hb); obtain ⟨q0, q1, q2, q3, q4, q5⟩ := C0.out _ LW.out; clear hb)
    | (go_at_call_of 88 a2; refine (A2.out _ (P2.out.later (Later.trans A0.out (Hid.out (by assumption))))).mono ?_; rintro e w2 ⟨rfl, hb⟩; have LW := Lib.hid (Later.trans (show Later W0 _ from (Hid.out (by assumption))) hb); obtain ⟨q0, q1, q2, q3, q4, q5⟩ := C0.out _ LW.out; clear hb)
    | (go_at_call_of 88 a3; refine (A3.out _ (P3.out.later (Later.trans A0.out (Hid.out (by assumption))))).mono ?_; rintro e w2 ⟨rfl, hb⟩; have LW := Lib.hid (Later.trans (show Later W0 _ from (Hid.out (by assumption))) hb); obtain ⟨q0, q1, q2, q3, q4, q5⟩ := C0.out _ LW.out; clear hb)
    | (go_at_call 89; refine (A4.out _ (P4.out.later (Later.trans A0.out (Hid.out (by assumption)))) (HO.out.later (Later.trans A0.out (Hid.out (by assumption))))).mono ?_; rintro e w2 ⟨rfl, hb⟩; have LW := Lib.hid (Later.trans (show Later W0 _ from (Hid.out (by assumption))) hb); obtain ⟨q0, q1, q2, q3, q4, q5⟩ := C0.out _ LW.out; clear hb))
        all_goals
          go_ret
          exact ⟨by rw [HW.out]; rfl, Later.trans A0.out (Hid.out (by assumption))⟩
      · rw [decide_eq_true h, decide_eq_true h'] at HW
        have e1 : ((n1 : Int) == 0) = false := by simp; omega
        have e3 : ((n3 : Int) == 0) = false := by simp; omega
        clear h h'
        cases b1
        · have HW : Hid (wrtB p = false) := Lib.hid (by rw [HW.out]; rfl)
          go_wp2_with (first
    | (go_at_call 78; refine (N4.out _).mono ?_; rintro e w2 ⟨rfl, hb⟩; have LW := Lib.hid (Later.trans (show Later W0 _ from (Hid.out (by assumption))) hb); obtain ⟨q0, q1, q2, q3, q4, q5⟩ := C0.out _ LW.out; clear hb)
    | (go_at_call_of 88 a1; refine (A1.out _ (P1.out.later (Later.trans A0.out (Hid.out (by assumption))))).mono ?_; rintro e w2 ⟨rfl, hb⟩; have LW := Lib.hid (Later.trans (show Later W0 _ from (Hid.out (by assumption))) hb); obtain ⟨q0, q1, q2, q3, q4, q5⟩ := C0.out _ LW.out; clear hb)
    | (go_at_call_of 88 a2; refine (A2.out _ (P2.out.later (Later.trans A0.out (Hid.out (by assumption))))).mono ?_; rintro e w2 ⟨rfl, hb⟩; have LW := Lib.hid (Later.trans (show Later W0 _ from (Hid.out (by assumption))) hb); obtain ⟨q0, q1, q2, q3, q4, q5⟩ := C0.out _ LW.out; clear hb)
    | (go_at_call_of 88 a3; refine (A3.out _ (P3.out.later (Later.trans A0.out (Hid.out (by assumption))))).mono ?_; rintro e w2 ⟨rfl, hb⟩; have LW := Lib.hid (Later.trans (show Later W0 _ from (Hid.out (by assumption))) hb); obtain ⟨q0, q1, q2, q3, q4, q5⟩ := C0.out _ LW.out; clear hb)
    | (go_at_call 89; refine (A4.out _ (P4.out.later (Later.trans A0.out (Hid.out (by assumption)))) (HO.out.later (Later.trans A0.out (Hid.out (by assumption))))).mono ?_; rintro e w2 ⟨rfl, hb⟩; have LW := Lib.hid (Later.trans (show Later W0 _ from (Hid.out (by assumption))) hb); obtain ⟨q0, q1, q2, q3, q4, q5⟩ := C0.out _ LW.out; clear hb))
          all_goals
            go_ret
            exact ⟨by rw [HW.out]; rfl, Later.trans A0.out (Hid.out (by assumption))⟩
        · cases b2
          · have HW : Hid (wrtB p = false) := Lib.hid (by rw [HW.out]; rfl)
            go_wp2_with (first
    | (go_at_call 78; refine (N4.out _).mono ?_; rintro e w2 ⟨rfl, hb⟩; have LW := Lib.hid (Later.trans (show Later W0 _ from (Hid.out (by assumption))) hb); obtain ⟨q0, q1, q2, q3, q4, q5⟩ := C0.out _ LW.out; clear hb)
    | (go_at_call_of 88 a1; refine (A1.out _ (P1.out.later (Later.trans A0.out (Hid.out (by assumption))))).mono ?_; rintro e w2 ⟨rfl, hb⟩; have LW := Lib.hid (Later.trans (show Later W0 _ from (Hid.out (by assumption))) hb); obtain ⟨q0, q1, q2, q3, q4, q5⟩ := C0.out _ LW.out; clear hb)
    | (go_at_call_of 88 a2; refine (A2.out _ (P2.out.later (Later.trans A0.out (Hid.out (by assumption))))).mono ?_; rintro e w2 ⟨rfl, hb⟩; have LW := Lib.hid (Later.trans (show Later W0 _ from (Hid.out (by assumption))) hb); obtain ⟨q0, q1, q2, q3, q4, q5⟩ := C0.out _ LW.out; clear hb)
    | (go_at_call_of 88 a3; refine (A3.out _ (P3.out.later (Later.trans A0.out (Hid.out (by assumption))))).mono ?_; rintro e w2 ⟨rfl, hb⟩; have LW := Lib.hid (Later.trans (show Later W0 _ from (Hid.out (by assumption))) hb); obtain ⟨q0, q1, q2, q3, q4, q5⟩ := C0.out _ LW.out; clear hb)
    | (go_at_call 89; refine (A4.out _ (P4.out.later (Later.trans A0.out (Hid.out (by assumption)))) (HO.out.later (Later.trans A0.out (Hid.out (by assumption))))).mono ?_; rintro e w2 ⟨rfl, hb⟩; have LW := Lib.hid (Later.trans (show Later W0 _ from (Hid.out (by assumption))) hb); obtain ⟨q0, q1, q2, q3, q4, q5⟩ := C0.out _ LW.out; clear hb))
            all_goals
              go_ret
              exact ⟨by rw [HW.out]; rfl, Later.trans A0.out (Hid.out (by assumption))⟩
          · cases b3
            · have HW : Hid (wrtB p = false) := Lib.hid (by rw [HW.out]; rfl)
              go_wp2_with (first
    | (go_at_call 78; refine (N4.out _).mono ?_; rintro e w2 ⟨rfl, hb⟩; have LW := Lib.hid (Later.trans (show Later W0 _ from (Hid.out (by assumption))) hb); obtain ⟨q0, q1, q2, q3, q4, q5⟩ := C0.out _ LW.out; clear hb)
    | (go_at_call_of 88 a1; refine (A1.out _ (P1.out.later (Later.trans A0.out (Hid.out (by assumption))))).mono ?_; rintro e w2 ⟨rfl, hb⟩; have LW := Lib.hid (Later.trans (show Later W0 _ from (Hid.out (by assumption))) hb); obtain ⟨q0, q1, q2, q3, q4, q5⟩ := C0.out _ LW.out; clear hb)
    | (go_at_call_of 88 a2; refine (A2.out _ (P2.out.later (Later.trans A0.out (Hid.out (by assumption))))).mono ?_; rintro e w2 ⟨rfl, hb⟩; have LW := Lib.hid (Later.trans (show Later W0 _ from (Hid.out (by assumption))) hb); obtain ⟨q0, q1, q2, q3, q4, q5⟩ := C0.out _ LW.out; clear hb)
    | (go_at_call_of 88 a3; refine (A3.out _ (P3.out.later (Later.trans A0.out (Hid.out (by assumption))))).mono ?_; rintro e w2 ⟨rfl, hb⟩; have LW := Lib.hid (Later.trans (show Later W0 _ from (Hid.out (by assumption))) hb); obtain ⟨q0, q1, q2, q3, q4, q5⟩ := C0.out _ LW.out; clear hb)
    | (go_at_call 89; refine (A4.out _ (P4.out.later (Later.trans A0.out (Hid.out (by assumption)))) (HO.out.later (Later.trans A0.out (Hid.out (by assumption))))).mono ?_; rintro e w2 ⟨rfl, hb⟩; have LW := Lib.hid (Later.trans (show Later W0 _ from (Hid.out (by assumption))) hb); obtain ⟨q0, q1, q2, q3, q4, q5⟩ := C0.out _ LW.out; clear hb))
              all_goals
                go_ret
                exact ⟨by rw [HW.out]; rfl, Later.trans A0.out (Hid.out (by assumption))⟩
            · have HW : Hid (wrtB p = b5) := Lib.hid (by rw [HW.out]; rfl)
              go_wp2_with (first
    | (go_at_call 78; refine (N4.out _).mono ?_; rintro e w2 ⟨rfl, hb⟩; have LW := Lib.hid (Later.trans (show Later W0 _ from (Hid.out (by assumption))) hb); obtain ⟨q0, q1, q2, q3, q4, q5⟩ := C0.out _ LW.out; clear hb)
    | (go_at_call_of 88 a1; refine (A1.out _ (P1.out.later (Later.trans A0.out (Hid.out (by assumption))))).mono ?_; rintro e w2 ⟨rfl, hb⟩; have LW := Lib.hid (Later.trans (show Later W0 _ from (Hid.out (by assumption))) hb); obtain ⟨q0, q1, q2, q3, q4, q5⟩ := C0.out _ LW.out; clear hb)
    | (go_at_call_of 88 a2; refine (A2.out _ (P2.out.later (Later.trans A0.out (Hid.out (by assumption))))).mono ?_; rintro e w2 ⟨rfl, hb⟩; have LW := Lib.hid (Later.trans (show Later W0 _ from (Hid.out (by assumption))) hb); obtain ⟨q0, q1, q2, q3, q4, q5⟩ := C0.out _ LW.out; clear hb)
    | (go_at_call_of 88 a3; refine (A3.out _ (P3.out.later (Later.trans A0.out (Hid.out (by assumption))))).mono ?_; rintro e w2 ⟨rfl, hb⟩; have LW := Lib.hid (Later.trans (show Later W0 _ from (Hid.out (by assumption))) hb); obtain ⟨q0, q1, q2, q3, q4, q5⟩ := C0.out _ LW.out; clear hb)
    | (go_at_call 89; refine (A4.out _ (P4.out.later (Later.trans A0.out (Hid.out (by assumption)))) (HO.out.later (Later.trans A0.out (Hid.out (by assumption))))).mono ?_; rintro e w2 ⟨rfl, hb⟩; have LW := Lib.hid (Later.trans (show Later W0 _ from (Hid.out (by assumption))) hb); obtain ⟨q0, q1, q2, q3, q4, q5⟩ := C0.out _ LW.out; clear hb))
              all_goals
                go_ret
                exact ⟨by rw [HW.out]; rfl, Later.trans A0.out (Hid.out (by assumption))⟩
end Go.Proofs.YtokipobjpinhmaaDoor
namespace Go.Proofs.YtokipobjpinhmaaDoor
open Go.RowKit Go.Shelf
set_option maxHeartbeats 4000000
set_option maxRecDepth 100000
set_option linter.unusedVariables false
set_option linter.unusedSimpArgs false
theorem wrtB_model (p : Prg) : wrtB p = (nmB p.nm && (nmsB p.ins && decide (1 ≤ p.ins.length)) && (nmsB p.vrs && decide (0 ≤ p.vrs.length)) && (nmsB p.outs && decide (1 ≤ p.outs.length)) && (decide (p.grd = []) || nmB p.grd) && lnsB p.lns) := by
  unfold wrtB
  rw [decide_eq_true (Nat.zero_le p.vrs.length)]
  cases nmB p.nm <;> cases nmsB p.ins <;> cases decide (1 ≤ p.ins.length) <;> cases nmsB p.vrs <;> cases nmsB p.outs <;> cases decide (1 ≤ p.outs.length) <;> cases decide (p.grd = []) <;> cases nmB p.grd <;> cases lnsB p.lns <;> rfl
theorem s_IsWritten (v : Value) (p : Prg) (w : World) (hp : PgV w v p) (hl : p.lns.length ≤ 1000000000) : Calls Tryd.prog 51 #[v] w fun e w' => e = .returned (.bool (wrtB p)) ∧ Later w w' := by
  obtain ⟨a1, c1, a2, c2, a3, c3, a4, c4, rfl, h1, h2, h3, h4, h5, h6⟩ := hp
  have P1 := Lib.hid h1; have P2 := Lib.hid h2; have P3 := Lib.hid h3; have P4 := Lib.hid h4
  have N0 : Hid (∀ W, Calls Tryd.prog 74 #[.string (tx p.nm)] W fun e w' => e = .returned (.bool (nmB p.nm)) ∧ Later W w') := Lib.hid (fun W => s_Name (tx p.nm) W h5)
  have N4 : Hid (∀ W, Calls Tryd.prog 74 #[.string (tx p.grd)] W fun e w' => e = .returned (.bool (nmB p.grd)) ∧ Later W w') := Lib.hid (fun W => s_Name (tx p.grd) W h6)
  have A1 := Lib.hid (fun W h => s_Names a1 p.ins.length c1 p.ins 1 W (by omega) h)
  have A2 := Lib.hid (fun W h => s_Names a2 p.vrs.length c2 p.vrs 0 W (by omega) h)
  have A3 := Lib.hid (fun W h => s_Names a3 p.outs.length c3 p.outs 1 W (by omega) h)
  have EG : ((tx p.grd).toList.isEmpty) = decide (p.grd = []) := by
    rw [Lib.toList_data]
    show p.grd.isEmpty = _
    cases p.grd <;> simp
  have HW : Hid (wrtB p = (nmB p.nm && (nmsB p.ins && decide (1 ≤ p.ins.length)) && (nmsB p.vrs && decide (0 ≤ p.vrs.length)) && (nmsB p.outs && decide (1 ≤ p.outs.length)) && (decide (p.grd = []) || nmB p.grd) && lnsB p.lns)) := Lib.hid (wrtB_model p)
  have hn4 := P4.out.2.1
  obtain ⟨s0, hs0⟩ : ∃ q, q = tx p.nm := ⟨_, rfl⟩
  obtain ⟨s4, hs4⟩ : ∃ q, q = tx p.grd := ⟨_, rfl⟩
  obtain ⟨n1, hn1q⟩ : ∃ q, q = p.ins.length := ⟨_, rfl⟩
  obtain ⟨n2, hn2q⟩ : ∃ q, q = p.vrs.length := ⟨_, rfl⟩
  obtain ⟨n3, hn3q⟩ : ∃ q, q = p.outs.length := ⟨_, rfl⟩
  obtain ⟨n4, hn4q⟩ : ∃ q, q = p.lns.length := ⟨_, rfl⟩
  obtain ⟨M, hM⟩ : ∃ q, q = p.lns := ⟨_, rfl⟩
  obtain ⟨b0, hb0⟩ : ∃ q, q = nmB p.nm := ⟨_, rfl⟩
  obtain ⟨b4, hb4⟩ : ∃ q, q = nmB p.grd := ⟨_, rfl⟩
  obtain ⟨g0, hg0⟩ : ∃ q, q = decide (p.grd = []) := ⟨_, rfl⟩
  obtain ⟨d1, hd1⟩ : ∃ q, q = (nmsB p.ins && decide (1 ≤ p.ins.length)) := ⟨_, rfl⟩
  obtain ⟨d2, hd2⟩ : ∃ q, q = (nmsB p.vrs && decide (0 ≤ p.vrs.length)) := ⟨_, rfl⟩
  obtain ⟨d3, hd3⟩ : ∃ q, q = (nmsB p.outs && decide (1 ≤ p.outs.length)) := ⟨_, rfl⟩
  rw [← hd1] at A1 HW; rw [← hd2] at A2 HW; rw [← hd3] at A3 HW
  rw [← hs0] at N0; rw [← hs4] at N4 EG; rw [← hb0] at N0 HW; rw [← hb4] at N4 HW; rw [← hg0] at EG HW
  rw [← hn1q] at A1 P1; rw [← hn2q] at A2 P2; rw [← hn3q] at A3 P3; rw [← hn4q] at P4 hn4 hl; rw [← hM] at P4 HW
  rw [← hs0, ← hs4, ← hn1q, ← hn2q, ← hn3q, ← hn4q]
  have HL := Lib.hid P4.out.1
  clear hs0 hs4 hn1q hn2q hn3q hn4q hM hb0 hb4 hg0 hd1 hd2 hd3 h1 h2 h3 h4 h5 h6
  have q0 : (w.alloc (.cells #[.string s0, .slice a1 n1 c1, .slice a2 n2 c2, .slice a3 n3 c3, .string s4, .slice a4 n4 c4] 27)).cell? ⟨w.heap.size, 0, none⟩ = some (.string s0) := by rw [cell_of_row _ _ 0 _ _ (0, 0) (heap_alloc_new w _)]; rfl
  have q1 : (w.alloc (.cells #[.string s0, .slice a1 n1 c1, .slice a2 n2 c2, .slice a3 n3 c3, .string s4, .slice a4 n4 c4] 27)).cell? ⟨w.heap.size, 1, none⟩ = some (.slice a1 n1 c1) := by rw [cell_of_row _ _ 1 _ _ (0, 0) (heap_alloc_new w _)]; rfl
  have q2 : (w.alloc (.cells #[.string s0, .slice a1 n1 c1, .slice a2 n2 c2, .slice a3 n3 c3, .string s4, .slice a4 n4 c4] 27)).cell? ⟨w.heap.size, 2, none⟩ = some (.slice a2 n2 c2) := by rw [cell_of_row _ _ 2 _ _ (0, 0) (heap_alloc_new w _)]; rfl
  have q3 : (w.alloc (.cells #[.string s0, .slice a1 n1 c1, .slice a2 n2 c2, .slice a3 n3 c3, .string s4, .slice a4 n4 c4] 27)).cell? ⟨w.heap.size, 3, none⟩ = some (.slice a3 n3 c3) := by rw [cell_of_row _ _ 3 _ _ (0, 0) (heap_alloc_new w _)]; rfl
  have q4 : (w.alloc (.cells #[.string s0, .slice a1 n1 c1, .slice a2 n2 c2, .slice a3 n3 c3, .string s4, .slice a4 n4 c4] 27)).cell? ⟨w.heap.size, 4, none⟩ = some (.string s4) := by rw [cell_of_row _ _ 4 _ _ (0, 0) (heap_alloc_new w _)]; rfl
  have q5 : (w.alloc (.cells #[.string s0, .slice a1 n1 c1, .slice a2 n2 c2, .slice a3 n3 c3, .string s4, .slice a4 n4 c4] 27)).cell? ⟨w.heap.size, 5, none⟩ = some (.slice a4 n4 c4) := by rw [cell_of_row _ _ 5 _ _ (0, 0) (heap_alloc_new w _)]; rfl
  have hW0 : w.heap.size < (w.alloc (.cells #[.string s0, .slice a1 n1 c1, .slice a2 n2 c2, .slice a3 n3 c3, .string s4, .slice a4 n4 c4] 27)).heap.size := by rw [World.size_alloc]; exact Nat.lt_succ_self _
  have C0 : Hid (∀ W', Later (w.alloc (.cells #[.string s0, .slice a1 n1 c1, .slice a2 n2 c2, .slice a3 n3 c3, .string s4, .slice a4 n4 c4] 27)) W' → W'.cell? ⟨w.heap.size, 0, none⟩ = some (.string s0) ∧ W'.cell? ⟨w.heap.size, 1, none⟩ = some (.slice a1 n1 c1) ∧ W'.cell? ⟨w.heap.size, 2, none⟩ = some (.slice a2 n2 c2) ∧ W'.cell? ⟨w.heap.size, 3, none⟩ = some (.slice a3 n3 c3) ∧ W'.cell? ⟨w.heap.size, 4, none⟩ = some (.string s4) ∧ W'.cell? ⟨w.heap.size, 5, none⟩ = some (.slice a4 n4 c4)) := Lib.hid (fun W' q => ⟨by rw [q.cell (p := ⟨w.heap.size, 0, none⟩) hW0]; exact q0, by rw [q.cell (p := ⟨w.heap.size, 1, none⟩) hW0]; exact q1, by rw [q.cell (p := ⟨w.heap.size, 2, none⟩) hW0]; exact q2, by rw [q.cell (p := ⟨w.heap.size, 3, none⟩) hW0]; exact q3, by rw [q.cell (p := ⟨w.heap.size, 4, none⟩) hW0]; exact q4, by rw [q.cell (p := ⟨w.heap.size, 5, none⟩) hW0]; exact q5⟩)
  have A0 : Hid (Later w (w.alloc (.cells #[.string s0, .slice a1 n1 c1, .slice a2 n2 c2, .slice a3 n3 c3, .string s4, .slice a4 n4 c4] 27))) := Lib.hid ((Later.refl _).alloc _)
  clear hW0
  go_enter Tryd.func51, Tryd.ntmps51
  go_wp2_with fail
  generalize w.alloc (.cells #[.string s0, .slice a1 n1 c1, .slice a2 n2 c2, .slice a3 n3 c3, .string s4, .slice a4 n4 c4] 27) = W0 at C0 A0 q0 q1 q2 q3 q4 q5 ⊢
  clear q0 q1 q2 q3 q4 q5
  refine (N0.out _).mono ?_
  rintro e w1 ⟨rfl, hb⟩
  have L1 := Lib.hid (show Later W0 w1 from hb)
  obtain ⟨q0, q1, q2, q3, q4, q5⟩ := C0.out _ hb
  clear hb
  cases b0
  · have HWF : Hid (wrtB p = false) := Lib.hid (by rw [HW.out]; rfl)
    go_wp2_with fail
    all_goals
      go_ret
      exact ⟨by rw [HWF.out]; rfl, Later.trans A0.out L1.out⟩
  cases d1
  · have HWF : Hid (wrtB p = false) := Lib.hid (by rw [HW.out]; rfl)
    go_wp2_with (first
    | (go_at_call_of 74 s4; refine (N4.out _).mono ?_; rintro e w2 ⟨rfl, hb⟩; have LW := Lib.hid (Later.trans (show Later W0 _ from (Hid.out (by assumption))) hb); obtain ⟨q0, q1, q2, q3, q4, q5⟩ := C0.out _ LW.out; clear hb)
    | (go_at_call_of 96 a1; refine (A1.out _ (P1.out.later (Later.trans A0.out (Hid.out (by assumption))))).mono ?_; rintro e w2 ⟨rfl, hb⟩; have LW := Lib.hid (Later.trans (show Later W0 _ from (Hid.out (by assumption))) hb); obtain ⟨q0, q1, q2, q3, q4, q5⟩ := C0.out _ LW.out; clear hb)
    | (go_at_call_of 96 a2; refine (A2.out _ (P2.out.later (Later.trans A0.out (Hid.out (by assumption))))).mono ?_; rintro e w2 ⟨rfl, hb⟩; have LW := Lib.hid (Later.trans (show Later W0 _ from (Hid.out (by assumption))) hb); obtain ⟨q0, q1, q2, q3, q4, q5⟩ := C0.out _ LW.out; clear hb)
    | (go_at_call_of 96 a3; refine (A3.out _ (P3.out.later (Later.trans A0.out (Hid.out (by assumption))))).mono ?_; rintro e w2 ⟨rfl, hb⟩; have LW := Lib.hid (Later.trans (show Later W0 _ from (Hid.out (by assumption))) hb); obtain ⟨q0, q1, q2, q3, q4, q5⟩ := C0.out _ LW.out; clear hb))
    all_goals
      go_ret
      exact ⟨by rw [HWF.out]; rfl, Later.trans A0.out (Hid.out (by assumption))⟩
  cases d2
  · have HWF : Hid (wrtB p = false) := Lib.hid (by rw [HW.out]; rfl)
    go_wp2_with (first
    | (go_at_call_of 74 s4; refine (N4.out _).mono ?_; rintro e w2 ⟨rfl, hb⟩; have LW := Lib.hid (Later.trans (show Later W0 _ from (Hid.out (by assumption))) hb); obtain ⟨q0, q1, q2, q3, q4, q5⟩ := C0.out _ LW.out; clear hb)
    | (go_at_call_of 96 a1; refine (A1.out _ (P1.out.later (Later.trans A0.out (Hid.out (by assumption))))).mono ?_; rintro e w2 ⟨rfl, hb⟩; have LW := Lib.hid (Later.trans (show Later W0 _ from (Hid.out (by assumption))) hb); obtain ⟨q0, q1, q2, q3, q4, q5⟩ := C0.out _ LW.out; clear hb)
    | (go_at_call_of 96 a2; refine (A2.out _ (P2.out.later (Later.trans A0.out (Hid.out (by assumption))))).mono ?_; rintro e w2 ⟨rfl, hb⟩; have LW := Lib.hid (Later.trans (show Later W0 _ from (Hid.out (by assumption))) hb); obtain ⟨q0, q1, q2, q3, q4, q5⟩ := C0.out _ LW.out; clear hb)
    | (go_at_call_of 96 a3; refine (A3.out _ (P3.out.later (Later.trans A0.out (Hid.out (by assumption))))).mono ?_; rintro e w2 ⟨rfl, hb⟩; have LW := Lib.hid (Later.trans (show Later W0 _ from (Hid.out (by assumption))) hb); obtain ⟨q0, q1, q2, q3, q4, q5⟩ := C0.out _ LW.out; clear hb))
    all_goals
      go_ret
      exact ⟨by rw [HWF.out]; rfl, Later.trans A0.out (Hid.out (by assumption))⟩
  cases d3
  · have HWF : Hid (wrtB p = false) := Lib.hid (by rw [HW.out]; rfl)
    go_wp2_with (first
    | (go_at_call_of 74 s4; refine (N4.out _).mono ?_; rintro e w2 ⟨rfl, hb⟩; have LW := Lib.hid (Later.trans (show Later W0 _ from (Hid.out (by assumption))) hb); obtain ⟨q0, q1, q2, q3, q4, q5⟩ := C0.out _ LW.out; clear hb)
    | (go_at_call_of 96 a1; refine (A1.out _ (P1.out.later (Later.trans A0.out (Hid.out (by assumption))))).mono ?_; rintro e w2 ⟨rfl, hb⟩; have LW := Lib.hid (Later.trans (show Later W0 _ from (Hid.out (by assumption))) hb); obtain ⟨q0, q1, q2, q3, q4, q5⟩ := C0.out _ LW.out; clear hb)
    | (go_at_call_of 96 a2; refine (A2.out _ (P2.out.later (Later.trans A0.out (Hid.out (by assumption))))).mono ?_; rintro e w2 ⟨rfl, hb⟩; have LW := Lib.hid (Later.trans (show Later W0 _ from (Hid.out (by assumption))) hb); obtain ⟨q0, q1, q2, q3, q4, q5⟩ := C0.out _ LW.out; clear hb)
    | (go_at_call_of 96 a3; refine (A3.out _ (P3.out.later (Later.trans A0.out (Hid.out (by assumption))))).mono ?_; rintro e w2 ⟨rfl, hb⟩; have LW := Lib.hid (Later.trans (show Later W0 _ from (Hid.out (by assumption))) hb); obtain ⟨q0, q1, q2, q3, q4, q5⟩ := C0.out _ LW.out; clear hb))
    all_goals
      go_ret
      exact ⟨by rw [HWF.out]; rfl, Later.trans A0.out (Hid.out (by assumption))⟩
  cases g0
  · cases b4
    · have HWF : Hid (wrtB p = false) := Lib.hid (by rw [HW.out]; rfl)
      go_wp2_with (first
    | (go_at_call_of 74 s4; refine (N4.out _).mono ?_; rintro e w2 ⟨rfl, hb⟩; have LW := Lib.hid (Later.trans (show Later W0 _ from (Hid.out (by assumption))) hb); obtain ⟨q0, q1, q2, q3, q4, q5⟩ := C0.out _ LW.out; clear hb)
    | (go_at_call_of 96 a1; refine (A1.out _ (P1.out.later (Later.trans A0.out (Hid.out (by assumption))))).mono ?_; rintro e w2 ⟨rfl, hb⟩; have LW := Lib.hid (Later.trans (show Later W0 _ from (Hid.out (by assumption))) hb); obtain ⟨q0, q1, q2, q3, q4, q5⟩ := C0.out _ LW.out; clear hb)
    | (go_at_call_of 96 a2; refine (A2.out _ (P2.out.later (Later.trans A0.out (Hid.out (by assumption))))).mono ?_; rintro e w2 ⟨rfl, hb⟩; have LW := Lib.hid (Later.trans (show Later W0 _ from (Hid.out (by assumption))) hb); obtain ⟨q0, q1, q2, q3, q4, q5⟩ := C0.out _ LW.out; clear hb)
    | (go_at_call_of 96 a3; refine (A3.out _ (P3.out.later (Later.trans A0.out (Hid.out (by assumption))))).mono ?_; rintro e w2 ⟨rfl, hb⟩; have LW := Lib.hid (Later.trans (show Later W0 _ from (Hid.out (by assumption))) hb); obtain ⟨q0, q1, q2, q3, q4, q5⟩ := C0.out _ LW.out; clear hb))
      all_goals
        go_ret
        exact ⟨by rw [HWF.out]; rfl, Later.trans A0.out (Hid.out (by assumption))⟩
    · have HW : Hid (wrtB p = lnsB M) := Lib.hid (by rw [HW.out]; rfl)
      go_wp2_with (first
          | (go_at_call_of 74 s4; refine (N4.out _).mono ?_; rintro e w2 ⟨rfl, hb⟩; have LW := Lib.hid (Later.trans (show Later W0 _ from (Hid.out (by assumption))) hb); obtain ⟨q0, q1, q2, q3, q4, q5⟩ := C0.out _ LW.out; clear hb)
          | (go_at_call_of 96 a1; refine (A1.out _ (P1.out.later (Later.trans A0.out (Hid.out (by assumption))))).mono ?_; rintro e w2 ⟨rfl, hb⟩; have LW := Lib.hid (Later.trans (show Later W0 _ from (Hid.out (by assumption))) hb); obtain ⟨q0, q1, q2, q3, q4, q5⟩ := C0.out _ LW.out; clear hb)
          | (go_at_call_of 96 a2; refine (A2.out _ (P2.out.later (Later.trans A0.out (Hid.out (by assumption))))).mono ?_; rintro e w2 ⟨rfl, hb⟩; have LW := Lib.hid (Later.trans (show Later W0 _ from (Hid.out (by assumption))) hb); obtain ⟨q0, q1, q2, q3, q4, q5⟩ := C0.out _ LW.out; clear hb)
          | (go_at_call_of 96 a3; refine (A3.out _ (P3.out.later (Later.trans A0.out (Hid.out (by assumption))))).mono ?_; rintro e w2 ⟨rfl, hb⟩; have LW := Lib.hid (Later.trans (show Later W0 _ from (Hid.out (by assumption))) hb); obtain ⟨q0, q1, q2, q3, q4, q5⟩ := C0.out _ LW.out; clear hb))
      clear q0 q1 q2 q3 q4 q5
      go_loopw [3] (fun i wr => ∃ k : Nat, k ≤ n4 ∧ i = .int .i64 k ∧ Later W0 wr ∧ Hid (∀ j, j < k → lnOk M j = true)) (fun i _ => n4 - (intOf i).toNat)
      case atStart => exact ⟨0, by omega, rfl, (Hid.out (by assumption)), Lib.hid (by intro j h; omega)⟩
      case round =>
        obtain ⟨k, hk, rfl, hb, HI⟩ := hrel
        have B3 := Lib.hid hb
        obtain ⟨q0, q1, q2, q3, q4, q5⟩ := C0.out _ hb
        by_cases hlt : k < n4
        · have PL := Lib.hid (P4.out.later (Later.trans A0.out hb))
          obtain ⟨b, off, ta, tc, rfl, z0, z1, z2⟩ := PL.out.2.2.1 k hlt
          have hle := (PL.out.rng k hlt).1
          have hle2 := (PL.out.rng k hlt).2
          have HT2 := Lib.hid z2
          have IN : Hid (∀ W', Calls Tryd.prog 74 #[.string (tx (ltx M k))] W' fun e w' => e = .returned (.bool (nmB (ltx M k))) ∧ Later W' w') := Lib.hid (fun W' => s_Name (tx (ltx M k)) W' hle)
          have IE := Lib.hid (fun W' h1 => s_IsExpression ta (lrx M k).length tc (lrx M k) W' h1 (by omega))
          have HK : Hid (lnOk M k = (nmB (ltx M k) && exB (lrx M k))) := Lib.hid rfl
          obtain ⟨y, hy⟩ : ∃ y, y = tx (ltx M k) := ⟨_, rfl⟩
          obtain ⟨q, hq⟩ : ∃ y, y = (lrx M k).length := ⟨_, rfl⟩
          obtain ⟨t1, ht1⟩ : ∃ b, b = nmB (ltx M k) := ⟨_, rfl⟩
          obtain ⟨t2, ht2⟩ : ∃ b, b = exB (lrx M k) := ⟨_, rfl⟩
          rw [← hy] at z0 IN; rw [← hq] at z1 IE HT2
          rw [← ht1] at IN HK; rw [← ht2] at IE HK
          have Z0 := Lib.hid z0; have Z1 := Lib.hid z1
          have KL : Hid (∀ W', Later wr W' → W'.cell? ⟨b, off + k * 2, none⟩ = some (.string y) ∧ W'.cell? ⟨b, off + k * 2 + 1, none⟩ = some (.slice ta q tc)) := Lib.hid (fun W' h => ⟨by rw [h.cell (p := ⟨b, off + k * 2, none⟩) (cell_lt Z0.out)]; exact Z0.out, by rw [h.cell (p := ⟨b, off + k * 2 + 1, none⟩) (cell_lt Z0.out)]; exact Z1.out⟩)
          clear hy hq ht1 ht2 hb hle hle2 z2
          cases t1
          · have HB : Hid (lnsB M = false) := Lib.hid (by unfold lnsB; rw [allL_bad M k (by rw [HL.out]; exact hlt) (by rw [HK.out]; rfl)]; rfl)
            go_wp2_with (go_at_call 74; refine (IN.out _).mono ?_; rintro e w3 ⟨rfl, hb⟩; have L3 := Lib.hid (Later.trans B3.out hb); obtain ⟨q0, q1, q2, q3, q4, q5⟩ := C0.out _ L3.out; obtain ⟨z0, z1⟩ := KL.out _ hb; clear hb)
            all_goals
              go_ret
              exact ⟨by rw [HW.out, HB.out]; rfl, Later.trans A0.out L3.out⟩
          · cases t2
            · have HB : Hid (lnsB M = false) := Lib.hid (by unfold lnsB; rw [allL_bad M k (by rw [HL.out]; exact hlt) (by rw [HK.out]; rfl)]; rfl)
              go_wp2_with (first | (go_at_call 74; refine (IN.out _).mono ?_; rintro e w3 ⟨rfl, hb⟩; have LR := Lib.hid hb; have L3 := Lib.hid (Later.trans B3.out hb); obtain ⟨q0, q1, q2, q3, q4, q5⟩ := C0.out _ L3.out; obtain ⟨z0, z1⟩ := KL.out _ hb; clear hb) | (go_at_call 97; refine (IE.out _ (HT2.out.later LR.out)).mono ?_; rintro e w4 ⟨rfl, hb⟩; have L4 := Lib.hid (Later.trans L3.out hb); clear hb))
              all_goals
                go_ret
                exact ⟨by rw [HW.out, HB.out]; rfl, Later.trans A0.out L4.out⟩
            · go_wp2_with (first | (go_at_call 74; refine (IN.out _).mono ?_; rintro e w3 ⟨rfl, hb⟩; have LR := Lib.hid hb; have L3 := Lib.hid (Later.trans B3.out hb); obtain ⟨q0, q1, q2, q3, q4, q5⟩ := C0.out _ L3.out; obtain ⟨z0, z1⟩ := KL.out _ hb; clear hb) | (go_at_call 97; refine (IE.out _ (HT2.out.later LR.out)).mono ?_; rintro e w4 ⟨rfl, hb⟩; have L4 := Lib.hid (Later.trans L3.out hb); clear hb))
              all_goals
                go_roundw
                case rel =>
                  refine ⟨k + 1, by omega, by go_num, L4.out, Lib.hid ?_⟩
                  intro q hq
                  rcases Nat.lt_or_ge q k with h1 | h1
                  · exact HI.out q h1
                  · obtain rfl : q = k := by omega
                    exact HK.out
                case measure => simp [intOf]; omega
        · obtain rfl : k = n4 := by omega
          have HF : Hid (lnsB M = (decide ((1 : Int) ≤ (k : Int)) && decide ((k : Int) ≤ 40))) := Lib.hid (by
            unfold lnsB; rw [allL_all M (by rw [HL.out]; exact HI.out), HL.out, Bool.true_and]
            congr 1
            · exact decide_eq_decide.2 (by omega)
            · exact decide_eq_decide.2 (by omega))
          have IR := Lib.hid (fun W' => s_InR (k : Int) 1 40 W' ⟨by omega, by omega⟩)
          obtain ⟨t, ht⟩ : ∃ t, t = (decide ((1 : Int) ≤ (k : Int)) && decide ((k : Int) ≤ 40)) := ⟨_, rfl⟩
          rw [← ht] at HF IR
          clear hb ht
          go_wp2_with (go_at_call 98; refine (IR.out _).mono ?_; rintro e w' ⟨rfl, rfl⟩)
          go_ret
          exact ⟨by rw [HW.out, HF.out]; rfl, Later.trans A0.out B3.out⟩
  · have HW : Hid (wrtB p = lnsB M) := Lib.hid (by rw [HW.out]; rfl)
    go_wp2_with (first
        | (go_at_call_of 74 s4; refine (N4.out _).mono ?_; rintro e w2 ⟨rfl, hb⟩; have LW := Lib.hid (Later.trans (show Later W0 _ from (Hid.out (by assumption))) hb); obtain ⟨q0, q1, q2, q3, q4, q5⟩ := C0.out _ LW.out; clear hb)
        | (go_at_call_of 96 a1; refine (A1.out _ (P1.out.later (Later.trans A0.out (Hid.out (by assumption))))).mono ?_; rintro e w2 ⟨rfl, hb⟩; have LW := Lib.hid (Later.trans (show Later W0 _ from (Hid.out (by assumption))) hb); obtain ⟨q0, q1, q2, q3, q4, q5⟩ := C0.out _ LW.out; clear hb)
        | (go_at_call_of 96 a2; refine (A2.out _ (P2.out.later (Later.trans A0.out (Hid.out (by assumption))))).mono ?_; rintro e w2 ⟨rfl, hb⟩; have LW := Lib.hid (Later.trans (show Later W0 _ from (Hid.out (by assumption))) hb); obtain ⟨q0, q1, q2, q3, q4, q5⟩ := C0.out _ LW.out; clear hb)
        | (go_at_call_of 96 a3; refine (A3.out _ (P3.out.later (Later.trans A0.out (Hid.out (by assumption))))).mono ?_; rintro e w2 ⟨rfl, hb⟩; have LW := Lib.hid (Later.trans (show Later W0 _ from (Hid.out (by assumption))) hb); obtain ⟨q0, q1, q2, q3, q4, q5⟩ := C0.out _ LW.out; clear hb))
    clear q0 q1 q2 q3 q4 q5
    go_loopw [3] (fun i wr => ∃ k : Nat, k ≤ n4 ∧ i = .int .i64 k ∧ Later W0 wr ∧ Hid (∀ j, j < k → lnOk M j = true)) (fun i _ => n4 - (intOf i).toNat)
    case atStart => exact ⟨0, by omega, rfl, (Hid.out (by assumption)), Lib.hid (by intro j h; omega)⟩
    case round =>
      obtain ⟨k, hk, rfl, hb, HI⟩ := hrel
      have B3 := Lib.hid hb
      obtain ⟨q0, q1, q2, q3, q4, q5⟩ := C0.out _ hb
      by_cases hlt : k < n4
      · have PL := Lib.hid (P4.out.later (Later.trans A0.out hb))
        obtain ⟨b, off, ta, tc, rfl, z0, z1, z2⟩ := PL.out.2.2.1 k hlt
        have hle := (PL.out.rng k hlt).1
        have hle2 := (PL.out.rng k hlt).2
        have HT2 := Lib.hid z2
        have IN : Hid (∀ W', Calls Tryd.prog 74 #[.string (tx (ltx M k))] W' fun e w' => e = .returned (.bool (nmB (ltx M k))) ∧ Later W' w') := Lib.hid (fun W' => s_Name (tx (ltx M k)) W' hle)
        have IE := Lib.hid (fun W' h1 => s_IsExpression ta (lrx M k).length tc (lrx M k) W' h1 (by omega))
        have HK : Hid (lnOk M k = (nmB (ltx M k) && exB (lrx M k))) := Lib.hid rfl
        obtain ⟨y, hy⟩ : ∃ y, y = tx (ltx M k) := ⟨_, rfl⟩
        obtain ⟨q, hq⟩ : ∃ y, y = (lrx M k).length := ⟨_, rfl⟩
        obtain ⟨t1, ht1⟩ : ∃ b, b = nmB (ltx M k) := ⟨_, rfl⟩
        obtain ⟨t2, ht2⟩ : ∃ b, b = exB (lrx M k) := ⟨_, rfl⟩
        rw [← hy] at z0 IN; rw [← hq] at z1 IE HT2
        rw [← ht1] at IN HK; rw [← ht2] at IE HK
        have Z0 := Lib.hid z0; have Z1 := Lib.hid z1
        have KL : Hid (∀ W', Later wr W' → W'.cell? ⟨b, off + k * 2, none⟩ = some (.string y) ∧ W'.cell? ⟨b, off + k * 2 + 1, none⟩ = some (.slice ta q tc)) := Lib.hid (fun W' h => ⟨by rw [h.cell (p := ⟨b, off + k * 2, none⟩) (cell_lt Z0.out)]; exact Z0.out, by rw [h.cell (p := ⟨b, off + k * 2 + 1, none⟩) (cell_lt Z0.out)]; exact Z1.out⟩)
        clear hy hq ht1 ht2 hb hle hle2 z2
        cases t1
        · have HB : Hid (lnsB M = false) := Lib.hid (by unfold lnsB; rw [allL_bad M k (by rw [HL.out]; exact hlt) (by rw [HK.out]; rfl)]; rfl)
          go_wp2_with (go_at_call 74; refine (IN.out _).mono ?_; rintro e w3 ⟨rfl, hb⟩; have L3 := Lib.hid (Later.trans B3.out hb); obtain ⟨q0, q1, q2, q3, q4, q5⟩ := C0.out _ L3.out; obtain ⟨z0, z1⟩ := KL.out _ hb; clear hb)
          all_goals
            go_ret
            exact ⟨by rw [HW.out, HB.out]; rfl, Later.trans A0.out L3.out⟩
        · cases t2
          · have HB : Hid (lnsB M = false) := Lib.hid (by unfold lnsB; rw [allL_bad M k (by rw [HL.out]; exact hlt) (by rw [HK.out]; rfl)]; rfl)
            go_wp2_with (first | (go_at_call 74; refine (IN.out _).mono ?_; rintro e w3 ⟨rfl, hb⟩; have LR := Lib.hid hb; have L3 := Lib.hid (Later.trans B3.out hb); obtain ⟨q0, q1, q2, q3, q4, q5⟩ := C0.out _ L3.out; obtain ⟨z0, z1⟩ := KL.out _ hb; clear hb) | (go_at_call 97; refine (IE.out _ (HT2.out.later LR.out)).mono ?_; rintro e w4 ⟨rfl, hb⟩; have L4 := Lib.hid (Later.trans L3.out hb); clear hb))
            all_goals
              go_ret
              exact ⟨by rw [HW.out, HB.out]; rfl, Later.trans A0.out L4.out⟩
          · go_wp2_with (first | (go_at_call 74; refine (IN.out _).mono ?_; rintro e w3 ⟨rfl, hb⟩; have LR := Lib.hid hb; have L3 := Lib.hid (Later.trans B3.out hb); obtain ⟨q0, q1, q2, q3, q4, q5⟩ := C0.out _ L3.out; obtain ⟨z0, z1⟩ := KL.out _ hb; clear hb) | (go_at_call 97; refine (IE.out _ (HT2.out.later LR.out)).mono ?_; rintro e w4 ⟨rfl, hb⟩; have L4 := Lib.hid (Later.trans L3.out hb); clear hb))
            all_goals
              go_roundw
              case rel =>
                refine ⟨k + 1, by omega, by go_num, L4.out, Lib.hid ?_⟩
                intro q hq
                rcases Nat.lt_or_ge q k with h1 | h1
                · exact HI.out q h1
                · obtain rfl : q = k := by omega
                  exact HK.out
              case measure => simp [intOf]; omega
      · obtain rfl : k = n4 := by omega
        have HF : Hid (lnsB M = (decide ((1 : Int) ≤ (k : Int)) && decide ((k : Int) ≤ 40))) := Lib.hid (by
          unfold lnsB; rw [allL_all M (by rw [HL.out]; exact HI.out), HL.out, Bool.true_and]
          congr 1
          · exact decide_eq_decide.2 (by omega)
          · exact decide_eq_decide.2 (by omega))
        have IR := Lib.hid (fun W' => s_InR (k : Int) 1 40 W' ⟨by omega, by omega⟩)
        obtain ⟨t, ht⟩ : ∃ t, t = (decide ((1 : Int) ≤ (k : Int)) && decide ((k : Int) ≤ 40)) := ⟨_, rfl⟩
        rw [← ht] at HF IR
        clear hb ht
        go_wp2_with (go_at_call 98; refine (IR.out _).mono ?_; rintro e w' ⟨rfl, rfl⟩)
        go_ret
        exact ⟨by rw [HW.out, HF.out]; rfl, Later.trans A0.out B3.out⟩
end Go.Proofs.YtokipobjpinhmaaDoor
namespace Go.Proofs.YtokipobjpinhmaaDoor
open Go.RowKit Go.Shelf
set_option maxHeartbeats 4000000
set_option maxRecDepth 100000
set_option linter.unusedVariables false
set_option linter.unusedSimpArgs false
/-- what LineOf says -/
def lnV (p : Prg) (x : List UInt8) : Int := if wrtB p = true then (if ixV (tgs p.lns) x < 0 then 0 else ixV (tgs p.lns) x) else 0
def lnE (p : Prg) (x : List UInt8) : Int := if wrtB p = true then (if ixV (tgs p.lns) x < 0 then 4 else 0) else 1
theorem ix_rng (p : Prg) (x : List UInt8) (h : p.lns.length ≤ 1048576) : -1 ≤ ixV (tgs p.lns) x ∧ ixV (tgs p.lns) x ≤ 1048576 := by
  have := ixV_lo (tgs p.lns) x
  rw [tgs_len] at this
  omega
theorem tgs_short {w : World} {a : Option Addr} {n : Nat} {M : List Lne} (h : Lns w a n M) : ∀ x ∈ tgs M, x.length ≤ 1048576 := by
  intro x hx
  obtain ⟨y, hy, rfl⟩ := List.mem_map.1 hx
  exact (h.2.2.2 y hy).1
theorem i_LineOf (v : Value) (p : Prg) (x : List UInt8) (w : World) (hp : PgV w v p) (ho : Ops w) (hl : p.lns.length ≤ 1048576) :
    Calls Tryd.prog 22 #[v, .string (tx x)] w fun e w' => e = .returned (.tuple #[.int .i64 (lnV p x), .int .i64 (lnE p x)]) ∧ Later w w' := by
  have IW := Lib.hid (fun W (h : Later w W) => i_IsWritten v p W (hp.later h) (ho.later h) (by omega))
  have TG := Lib.hid (fun W (h : Later w W) => i_targets v p W (hp.later h) hl)
  have IX := Lib.hid (fun a n cap W h => i_IndexT a n cap (tgs p.lns) x W h)
  have HR := Lib.hid (ix_rng p x hl)
  have HV : Hid (lnV p x = if wrtB p = true then (if ixV (tgs p.lns) x < 0 then 0 else ixV (tgs p.lns) x) else 0) := Lib.hid rfl
  have HE : Hid (lnE p x = if wrtB p = true then (if ixV (tgs p.lns) x < 0 then 4 else 0) else 1) := Lib.hid rfl
  obtain ⟨a1, c1, a2, c2, a3, c3, a4, c4, rfl, h1, h2, h3, h4, h5, h6⟩ := hp
  have SH := Lib.hid (tgs_short h4)
  clear h1 h2 h3 h4 h5 h6 ho hl
  obtain ⟨X, hX⟩ : ∃ q, q = tx x := ⟨_, rfl⟩
  rw [← hX] at IX ⊢
  generalize lnV p x = V at HV ⊢
  generalize lnE p x = E at HE ⊢
  generalize wrtB p = b at IW HV HE
  generalize ixV (tgs p.lns) x = r at IX HR HV HE
  obtain ⟨s0, hs0⟩ : ∃ q, q = tx p.nm := ⟨_, rfl⟩
  obtain ⟨s4, hs4⟩ : ∃ q, q = tx p.grd := ⟨_, rfl⟩
  obtain ⟨n1, hn1⟩ : ∃ q, q = p.ins.length := ⟨_, rfl⟩
  obtain ⟨n2, hn2⟩ : ∃ q, q = p.vrs.length := ⟨_, rfl⟩
  obtain ⟨n3, hn3⟩ : ∃ q, q = p.outs.length := ⟨_, rfl⟩
  obtain ⟨n4, hn4⟩ : ∃ q, q = p.lns.length := ⟨_, rfl⟩
  simp only [← hs0, ← hs4, ← hn1, ← hn2, ← hn3, ← hn4] at IW TG ⊢
  generalize tgs p.lns = T at *
  clear hs0 hs4 hn1 hn2 hn3 hn4 hX
  have q0 : (w.alloc (.cells #[.string s0, .slice a1 n1 c1, .slice a2 n2 c2, .slice a3 n3 c3, .string s4, .slice a4 n4 c4] 27)).cell? ⟨w.heap.size, 0, none⟩ = some (.string s0) := by rw [cell_of_row _ _ 0 _ _ (0, 0) (heap_alloc_new w _)]; rfl
  have q1 : (w.alloc (.cells #[.string s0, .slice a1 n1 c1, .slice a2 n2 c2, .slice a3 n3 c3, .string s4, .slice a4 n4 c4] 27)).cell? ⟨w.heap.size, 1, none⟩ = some (.slice a1 n1 c1) := by rw [cell_of_row _ _ 1 _ _ (0, 0) (heap_alloc_new w _)]; rfl
  have q2 : (w.alloc (.cells #[.string s0, .slice a1 n1 c1, .slice a2 n2 c2, .slice a3 n3 c3, .string s4, .slice a4 n4 c4] 27)).cell? ⟨w.heap.size, 2, none⟩ = some (.slice a2 n2 c2) := by rw [cell_of_row _ _ 2 _ _ (0, 0) (heap_alloc_new w _)]; rfl
  have q3 : (w.alloc (.cells #[.string s0, .slice a1 n1 c1, .slice a2 n2 c2, .slice a3 n3 c3, .string s4, .slice a4 n4 c4] 27)).cell? ⟨w.heap.size, 3, none⟩ = some (.slice a3 n3 c3) := by rw [cell_of_row _ _ 3 _ _ (0, 0) (heap_alloc_new w _)]; rfl
  have q4 : (w.alloc (.cells #[.string s0, .slice a1 n1 c1, .slice a2 n2 c2, .slice a3 n3 c3, .string s4, .slice a4 n4 c4] 27)).cell? ⟨w.heap.size, 4, none⟩ = some (.string s4) := by rw [cell_of_row _ _ 4 _ _ (0, 0) (heap_alloc_new w _)]; rfl
  have q5 : (w.alloc (.cells #[.string s0, .slice a1 n1 c1, .slice a2 n2 c2, .slice a3 n3 c3, .string s4, .slice a4 n4 c4] 27)).cell? ⟨w.heap.size, 5, none⟩ = some (.slice a4 n4 c4) := by rw [cell_of_row _ _ 5 _ _ (0, 0) (heap_alloc_new w _)]; rfl
  have hW0 : w.heap.size < (w.alloc (.cells #[.string s0, .slice a1 n1 c1, .slice a2 n2 c2, .slice a3 n3 c3, .string s4, .slice a4 n4 c4] 27)).heap.size := by rw [World.size_alloc]; exact Nat.lt_succ_self _
  have C0 : Hid (∀ W', Later (w.alloc (.cells #[.string s0, .slice a1 n1 c1, .slice a2 n2 c2, .slice a3 n3 c3, .string s4, .slice a4 n4 c4] 27)) W' → W'.cell? ⟨w.heap.size, 0, none⟩ = some (.string s0) ∧ W'.cell? ⟨w.heap.size, 1, none⟩ = some (.slice a1 n1 c1) ∧ W'.cell? ⟨w.heap.size, 2, none⟩ = some (.slice a2 n2 c2) ∧ W'.cell? ⟨w.heap.size, 3, none⟩ = some (.slice a3 n3 c3) ∧ W'.cell? ⟨w.heap.size, 4, none⟩ = some (.string s4) ∧ W'.cell? ⟨w.heap.size, 5, none⟩ = some (.slice a4 n4 c4)) := Lib.hid (fun W' q => ⟨by rw [q.cell (p := ⟨w.heap.size, 0, none⟩) hW0]; exact q0, by rw [q.cell (p := ⟨w.heap.size, 1, none⟩) hW0]; exact q1, by rw [q.cell (p := ⟨w.heap.size, 2, none⟩) hW0]; exact q2, by rw [q.cell (p := ⟨w.heap.size, 3, none⟩) hW0]; exact q3, by rw [q.cell (p := ⟨w.heap.size, 4, none⟩) hW0]; exact q4, by rw [q.cell (p := ⟨w.heap.size, 5, none⟩) hW0]; exact q5⟩)
  have A0 : Hid (Later w (w.alloc (.cells #[.string s0, .slice a1 n1 c1, .slice a2 n2 c2, .slice a3 n3 c3, .string s4, .slice a4 n4 c4] 27))) := Lib.hid ((Later.refl _).alloc _)
  clear hW0
  cases b
  · have HV2 : V = 0 := HV.out
    have HE2 : E = 1 := HE.out
    subst HV2; subst HE2
    go_enter Tryd.func22, Tryd.ntmps22
    go_wp2_with fail
    generalize (w.alloc (.cells #[.string s0, .slice a1 n1 c1, .slice a2 n2 c2, .slice a3 n3 c3, .string s4, .slice a4 n4 c4] 27)) = W0 at C0 A0 q0 q1 q2 q3 q4 q5 ⊢
    refine (IW.out _ A0.out).mono ?_
    rintro e w1 ⟨rfl, hb⟩
    have B1 := Lib.hid (Later.trans A0.out hb)
    clear hb q0 q1 q2 q3 q4 q5
    go_wp2_with fail
    all_goals
      refine bodyPost_ret (v := .tuple #[.int .i64 0, .int .i64 1]) (by simp [results, Tryd.results22, go_sem, *]) rfl ⟨rfl, B1.out⟩
  · have HV2 : V = if r < 0 then 0 else r := HV.out
    have HE2 : E = if r < 0 then 4 else 0 := HE.out
    have hr := HR.out
    go_enter Tryd.func22, Tryd.ntmps22
    go_wp2_with fail
    generalize (w.alloc (.cells #[.string s0, .slice a1 n1 c1, .slice a2 n2 c2, .slice a3 n3 c3, .string s4, .slice a4 n4 c4] 27)) = W0 at C0 A0 q0 q1 q2 q3 q4 q5 ⊢
    refine (IW.out _ A0.out).mono ?_
    rintro e w1 ⟨rfl, hb⟩
    have B1 := Lib.hid (Later.trans A0.out hb)
    clear q0 q1 q2 q3 q4 q5
    obtain ⟨q0, q1, q2, q3, q4, q5⟩ := C0.out _ hb
    clear hb
    go_wp2_with fail
    refine (TG.out _ B1.out).mono ?_
    rintro e w2 ⟨u, rfl, ho, hb⟩
    have B2 := Lib.hid (Later.trans B1.out hb)
    obtain ⟨a, c, rfl, _, hs, _⟩ := ho.sts SH.out
    have IX2 := Lib.hid (IX.out a _ c w2 hs)
    clear ho hs hb q0 q1 q2 q3 q4 q5
    generalize T.length = n at IX2 ⊢
    go_wp2_with fail
    refine IX2.out.mono ?_
    rintro e w3 ⟨rfl, rfl⟩
    by_cases hc : r < 0
    · rw [if_pos hc] at HV2 HE2
      subst HV2; subst HE2
      go_wp2_with fail
      all_goals
        refine bodyPost_ret (v := .tuple #[.int .i64 0, .int .i64 4]) (by simp [results, Tryd.results22, go_sem, *]) rfl ⟨rfl, B2.out⟩
    · rw [if_neg hc] at HV2 HE2
      subst HE2
      obtain rfl : V = r := HV2
      go_wp2_with fail
      all_goals
        refine bodyPost_ret (v := .tuple #[.int .i64 V, .int .i64 0]) (by simp [results, Tryd.results22, go_sem, *]) rfl ⟨rfl, B2.out⟩
theorem s_Line (v : Value) (p : Prg) (x : List UInt8) (w : World) (hp : PgV w v p) (hl : p.lns.length ≤ 1048576) :
    Calls Tryd.prog 66 #[v, .string (tx x)] w fun e w' => e = .returned (.int .i64 (ixV (tgs p.lns) x)) ∧ Later w w' := by
  obtain ⟨a1, c1, a2, c2, a3, c3, a4, c4, rfl, h1, h2, h3, h4, h5, h6⟩ := hp
  have P4 := Lib.hid h4
  have TA : Hid (∀ j, j < p.lns.length → wx (tgs p.lns) j = ltx p.lns j) := Lib.hid (fun j h => tgs_at p.lns j h)
  have EQ := Lib.hid (fun y => eqx y x)
  have RH : Hid (∀ j, j < p.lns.length → wx (tgs p.lns) j = x → (∀ i, i < j → wx (tgs p.lns) i ≠ x) → ixV (tgs p.lns) x = (j : Int)) := Lib.hid (fun j h1 h2 h3 => ixV_hit (tgs p.lns) x j (by rw [tgs_len]; exact h1) h2 h3)
  have RM : Hid ((∀ i, i < p.lns.length → wx (tgs p.lns) i ≠ x) → ixV (tgs p.lns) x = -1) := Lib.hid (fun h => ixV_miss (tgs p.lns) x (by rw [tgs_len]; exact h))
  clear h1 h2 h3 h4 h5 h6
  obtain ⟨X, hX⟩ : ∃ q, q = tx x := ⟨_, rfl⟩
  rw [← hX] at EQ ⊢
  obtain ⟨s0, hs0⟩ : ∃ q, q = tx p.nm := ⟨_, rfl⟩
  obtain ⟨s4, hs4⟩ : ∃ q, q = tx p.grd := ⟨_, rfl⟩
  obtain ⟨n1, hn1⟩ : ∃ q, q = p.ins.length := ⟨_, rfl⟩
  obtain ⟨n2, hn2⟩ : ∃ q, q = p.vrs.length := ⟨_, rfl⟩
  obtain ⟨n3, hn3⟩ : ∃ q, q = p.outs.length := ⟨_, rfl⟩
  obtain ⟨n4, hn4⟩ : ∃ q, q = p.lns.length := ⟨_, rfl⟩
  simp only [← hs0, ← hs4, ← hn1, ← hn2, ← hn3, ← hn4] at P4 TA RH RM hl ⊢
  generalize ixV (tgs p.lns) x = r at RH RM ⊢
  generalize p.lns = M at *
  clear hs0 hs4 hn1 hn2 hn3 hn4 hX
  have q0 : (w.alloc (.cells #[.string s0, .slice a1 n1 c1, .slice a2 n2 c2, .slice a3 n3 c3, .string s4, .slice a4 n4 c4] 27)).cell? ⟨w.heap.size, 0, none⟩ = some (.string s0) := by rw [cell_of_row _ _ 0 _ _ (0, 0) (heap_alloc_new w _)]; rfl
  have q1 : (w.alloc (.cells #[.string s0, .slice a1 n1 c1, .slice a2 n2 c2, .slice a3 n3 c3, .string s4, .slice a4 n4 c4] 27)).cell? ⟨w.heap.size, 1, none⟩ = some (.slice a1 n1 c1) := by rw [cell_of_row _ _ 1 _ _ (0, 0) (heap_alloc_new w _)]; rfl
  have q2 : (w.alloc (.cells #[.string s0, .slice a1 n1 c1, .slice a2 n2 c2, .slice a3 n3 c3, .string s4, .slice a4 n4 c4] 27)).cell? ⟨w.heap.size, 2, none⟩ = some (.slice a2 n2 c2) := by rw [cell_of_row _ _ 2 _ _ (0, 0) (heap_alloc_new w _)]; rfl
  have q3 : (w.alloc (.cells #[.string s0, .slice a1 n1 c1, .slice a2 n2 c2, .slice a3 n3 c3, .string s4, .slice a4 n4 c4] 27)).cell? ⟨w.heap.size, 3, none⟩ = some (.slice a3 n3 c3) := by rw [cell_of_row _ _ 3 _ _ (0, 0) (heap_alloc_new w _)]; rfl
  have q4 : (w.alloc (.cells #[.string s0, .slice a1 n1 c1, .slice a2 n2 c2, .slice a3 n3 c3, .string s4, .slice a4 n4 c4] 27)).cell? ⟨w.heap.size, 4, none⟩ = some (.string s4) := by rw [cell_of_row _ _ 4 _ _ (0, 0) (heap_alloc_new w _)]; rfl
  have q5 : (w.alloc (.cells #[.string s0, .slice a1 n1 c1, .slice a2 n2 c2, .slice a3 n3 c3, .string s4, .slice a4 n4 c4] 27)).cell? ⟨w.heap.size, 5, none⟩ = some (.slice a4 n4 c4) := by rw [cell_of_row _ _ 5 _ _ (0, 0) (heap_alloc_new w _)]; rfl
  have hW0 : w.heap.size < (w.alloc (.cells #[.string s0, .slice a1 n1 c1, .slice a2 n2 c2, .slice a3 n3 c3, .string s4, .slice a4 n4 c4] 27)).heap.size := by rw [World.size_alloc]; exact Nat.lt_succ_self _
  have C0 : Hid (∀ W', Later (w.alloc (.cells #[.string s0, .slice a1 n1 c1, .slice a2 n2 c2, .slice a3 n3 c3, .string s4, .slice a4 n4 c4] 27)) W' → W'.cell? ⟨w.heap.size, 0, none⟩ = some (.string s0) ∧ W'.cell? ⟨w.heap.size, 1, none⟩ = some (.slice a1 n1 c1) ∧ W'.cell? ⟨w.heap.size, 2, none⟩ = some (.slice a2 n2 c2) ∧ W'.cell? ⟨w.heap.size, 3, none⟩ = some (.slice a3 n3 c3) ∧ W'.cell? ⟨w.heap.size, 4, none⟩ = some (.string s4) ∧ W'.cell? ⟨w.heap.size, 5, none⟩ = some (.slice a4 n4 c4)) := Lib.hid (fun W' q => ⟨by rw [q.cell (p := ⟨w.heap.size, 0, none⟩) hW0]; exact q0, by rw [q.cell (p := ⟨w.heap.size, 1, none⟩) hW0]; exact q1, by rw [q.cell (p := ⟨w.heap.size, 2, none⟩) hW0]; exact q2, by rw [q.cell (p := ⟨w.heap.size, 3, none⟩) hW0]; exact q3, by rw [q.cell (p := ⟨w.heap.size, 4, none⟩) hW0]; exact q4, by rw [q.cell (p := ⟨w.heap.size, 5, none⟩) hW0]; exact q5⟩)
  have A0 : Hid (Later w (w.alloc (.cells #[.string s0, .slice a1 n1 c1, .slice a2 n2 c2, .slice a3 n3 c3, .string s4, .slice a4 n4 c4] 27))) := Lib.hid ((Later.refl _).alloc _)
  clear hW0
  have P5 := Lib.hid (P4.out.later A0.out)
  clear C0 q0 q1 q2 q3 q4
  go_enter Tryd.func66, Tryd.ntmps66
  go_wp2_with fail
  generalize (w.alloc (.cells #[.string s0, .slice a1 n1 c1, .slice a2 n2 c2, .slice a3 n3 c3, .string s4, .slice a4 n4 c4] 27)) = W0 at A0 P5 q5 ⊢
  go_loop [5] (fun i => ∃ k : Nat, k ≤ n4 ∧ i = .int .i64 k ∧ Hid (∀ j, j < k → wx (tgs M) j ≠ x)) (fun i => n4 - (intOf i).toNat)
  case atStart => exact ⟨0, by omega, rfl, Lib.hid (by intro j h; omega)⟩
  case round =>
    obtain ⟨k, hk, rfl, HI⟩ := hrel
    by_cases hlt : k < n4
    · obtain ⟨b, off, ta, tc, rfl, c0, _, _⟩ := P5.out.2.2.1 k hlt
      have EK := EQ.out (ltx M k)
      have ET := TA.out k hlt
      have HR0 := Lib.hid (RH.out k hlt)
      have HIE : Hid (wx (tgs M) k = ltx M k) := Lib.hid ET
      clear ET
      obtain ⟨y, hy⟩ : ∃ y, y = tx (ltx M k) := ⟨_, rfl⟩
      rw [← hy] at c0 EK
      clear hy
      by_cases he : ltx M k = x
      · rw [decide_eq_true he] at EK
        have HR := Lib.hid (HR0.out (HIE.out.trans he) HI.out)
        clear he
        go_wp2_with fail
        all_goals
          go_ret
          exact ⟨by rw [HR.out]; rfl, A0.out⟩
      · rw [decide_eq_false he] at EK
        have HE := Lib.hid he
        clear he
        go_wp2_with fail
        go_roundw
        case rel =>
          refine ⟨k + 1, by omega, by go_num, Lib.hid ?_⟩
          intro q hq
          rcases Nat.lt_or_ge q k with h1 | h1
          · exact HI.out q h1
          · obtain rfl : q = k := by omega
            rw [HIE.out]; exact HE.out
        case measure => simp [intOf]; omega
    · obtain rfl : k = n4 := by omega
      have HR := Lib.hid (RM.out HI.out)
      go_wp2_with fail
      all_goals
        go_ret
        exact ⟨by rw [HR.out]; rfl, A0.out⟩
theorem s_LineOf (v : Value) (p : Prg) (x : List UInt8) (w : World) (hp : PgV w v p) (hl : p.lns.length ≤ 1048576) :
    Calls Tryd.prog 27 #[v, .string (tx x)] w fun e w' => e = .returned (.tuple #[.int .i64 (lnV p x), .int .i64 (lnE p x)]) ∧ Later w w' := by
  have IW := Lib.hid (fun W (h : Later w W) => s_IsWritten v p W (hp.later h) (by omega))
  have TG := Lib.hid (fun W (h : Later w W) => s_Line v p x W (hp.later h) hl)
  have HR := Lib.hid (ix_rng p x hl)
  have HV : Hid (lnV p x = if wrtB p = true then (if ixV (tgs p.lns) x < 0 then 0 else ixV (tgs p.lns) x) else 0) := Lib.hid rfl
  have HE : Hid (lnE p x = if wrtB p = true then (if ixV (tgs p.lns) x < 0 then 4 else 0) else 1) := Lib.hid rfl
  obtain ⟨a1, c1, a2, c2, a3, c3, a4, c4, rfl, h1, h2, h3, h4, h5, h6⟩ := hp
  clear h1 h2 h3 h4 h5 h6 hl
  obtain ⟨X, hX⟩ : ∃ q, q = tx x := ⟨_, rfl⟩
  rw [← hX] at TG ⊢
  generalize lnV p x = V at HV ⊢
  generalize lnE p x = E at HE ⊢
  generalize wrtB p = b at IW HV HE
  generalize ixV (tgs p.lns) x = r at TG HR HV HE
  obtain ⟨s0, hs0⟩ : ∃ q, q = tx p.nm := ⟨_, rfl⟩
  obtain ⟨s4, hs4⟩ : ∃ q, q = tx p.grd := ⟨_, rfl⟩
  obtain ⟨n1, hn1⟩ : ∃ q, q = p.ins.length := ⟨_, rfl⟩
  obtain ⟨n2, hn2⟩ : ∃ q, q = p.vrs.length := ⟨_, rfl⟩
  obtain ⟨n3, hn3⟩ : ∃ q, q = p.outs.length := ⟨_, rfl⟩
  obtain ⟨n4, hn4⟩ : ∃ q, q = p.lns.length := ⟨_, rfl⟩
  simp only [← hs0, ← hs4, ← hn1, ← hn2, ← hn3, ← hn4] at IW TG ⊢
  clear hs0 hs4 hn1 hn2 hn3 hn4 hX
  have q0 : (w.alloc (.cells #[.string s0, .slice a1 n1 c1, .slice a2 n2 c2, .slice a3 n3 c3, .string s4, .slice a4 n4 c4] 27)).cell? ⟨w.heap.size, 0, none⟩ = some (.string s0) := by rw [cell_of_row _ _ 0 _ _ (0, 0) (heap_alloc_new w _)]; rfl
  have q1 : (w.alloc (.cells #[.string s0, .slice a1 n1 c1, .slice a2 n2 c2, .slice a3 n3 c3, .string s4, .slice a4 n4 c4] 27)).cell? ⟨w.heap.size, 1, none⟩ = some (.slice a1 n1 c1) := by rw [cell_of_row _ _ 1 _ _ (0, 0) (heap_alloc_new w _)]; rfl
  have q2 : (w.alloc (.cells #[.string s0, .slice a1 n1 c1, .slice a2 n2 c2, .slice a3 n3 c3, .string s4, .slice a4 n4 c4] 27)).cell? ⟨w.heap.size, 2, none⟩ = some (.slice a2 n2 c2) := by rw [cell_of_row _ _ 2 _ _ (0, 0) (heap_alloc_new w _)]; rfl
  have q3 : (w.alloc (.cells #[.string s0, .slice a1 n1 c1, .slice a2 n2 c2, .slice a3 n3 c3, .string s4, .slice a4 n4 c4] 27)).cell? ⟨w.heap.size, 3, none⟩ = some (.slice a3 n3 c3) := by rw [cell_of_row _ _ 3 _ _ (0, 0) (heap_alloc_new w _)]; rfl
  have q4 : (w.alloc (.cells #[.string s0, .slice a1 n1 c1, .slice a2 n2 c2, .slice a3 n3 c3, .string s4, .slice a4 n4 c4] 27)).cell? ⟨w.heap.size, 4, none⟩ = some (.string s4) := by rw [cell_of_row _ _ 4 _ _ (0, 0) (heap_alloc_new w _)]; rfl
  have q5 : (w.alloc (.cells #[.string s0, .slice a1 n1 c1, .slice a2 n2 c2, .slice a3 n3 c3, .string s4, .slice a4 n4 c4] 27)).cell? ⟨w.heap.size, 5, none⟩ = some (.slice a4 n4 c4) := by rw [cell_of_row _ _ 5 _ _ (0, 0) (heap_alloc_new w _)]; rfl
  have hW0 : w.heap.size < (w.alloc (.cells #[.string s0, .slice a1 n1 c1, .slice a2 n2 c2, .slice a3 n3 c3, .string s4, .slice a4 n4 c4] 27)).heap.size := by rw [World.size_alloc]; exact Nat.lt_succ_self _
  have C0 : Hid (∀ W', Later (w.alloc (.cells #[.string s0, .slice a1 n1 c1, .slice a2 n2 c2, .slice a3 n3 c3, .string s4, .slice a4 n4 c4] 27)) W' → W'.cell? ⟨w.heap.size, 0, none⟩ = some (.string s0) ∧ W'.cell? ⟨w.heap.size, 1, none⟩ = some (.slice a1 n1 c1) ∧ W'.cell? ⟨w.heap.size, 2, none⟩ = some (.slice a2 n2 c2) ∧ W'.cell? ⟨w.heap.size, 3, none⟩ = some (.slice a3 n3 c3) ∧ W'.cell? ⟨w.heap.size, 4, none⟩ = some (.string s4) ∧ W'.cell? ⟨w.heap.size, 5, none⟩ = some (.slice a4 n4 c4)) := Lib.hid (fun W' q => ⟨by rw [q.cell (p := ⟨w.heap.size, 0, none⟩) hW0]; exact q0, by rw [q.cell (p := ⟨w.heap.size, 1, none⟩) hW0]; exact q1, by rw [q.cell (p := ⟨w.heap.size, 2, none⟩) hW0]; exact q2, by rw [q.cell (p := ⟨w.heap.size, 3, none⟩) hW0]; exact q3, by rw [q.cell (p := ⟨w.heap.size, 4, none⟩) hW0]; exact q4, by rw [q.cell (p := ⟨w.heap.size, 5, none⟩) hW0]; exact q5⟩)
  have A0 : Hid (Later w (w.alloc (.cells #[.string s0, .slice a1 n1 c1, .slice a2 n2 c2, .slice a3 n3 c3, .string s4, .slice a4 n4 c4] 27))) := Lib.hid ((Later.refl _).alloc _)
  clear hW0
  cases b
  · have HV2 : V = 0 := HV.out
    have HE2 : E = 1 := HE.out
    subst HV2; subst HE2
    go_enter Tryd.func27, Tryd.ntmps27
    go_wp2_with fail
    generalize (w.alloc (.cells #[.string s0, .slice a1 n1 c1, .slice a2 n2 c2, .slice a3 n3 c3, .string s4, .slice a4 n4 c4] 27)) = W0 at C0 A0 q0 q1 q2 q3 q4 q5 ⊢
    refine (IW.out _ A0.out).mono ?_
    rintro e w1 ⟨rfl, hb⟩
    have B1 := Lib.hid (Later.trans A0.out hb)
    clear hb q0 q1 q2 q3 q4 q5
    go_wp2_with fail
    all_goals
      refine bodyPost_ret (v := .tuple #[.int .i64 0, .int .i64 1]) (by simp [results, Tryd.results27, go_sem, *]) rfl ⟨rfl, B1.out⟩
  · have HV2 : V = if r < 0 then 0 else r := HV.out
    have HE2 : E = if r < 0 then 4 else 0 := HE.out
    have hr := HR.out
    go_enter Tryd.func27, Tryd.ntmps27
    go_wp2_with fail
    generalize (w.alloc (.cells #[.string s0, .slice a1 n1 c1, .slice a2 n2 c2, .slice a3 n3 c3, .string s4, .slice a4 n4 c4] 27)) = W0 at C0 A0 q0 q1 q2 q3 q4 q5 ⊢
    refine (IW.out _ A0.out).mono ?_
    rintro e w1 ⟨rfl, hb⟩
    have B1 := Lib.hid (Later.trans A0.out hb)
    clear q0 q1 q2 q3 q4 q5
    obtain ⟨q0, q1, q2, q3, q4, q5⟩ := C0.out _ hb
    clear hb
    go_wp2_with fail
    refine (TG.out _ B1.out).mono ?_
    rintro e w2 ⟨rfl, hb⟩
    have B2 := Lib.hid (Later.trans B1.out hb)
    clear hb q0 q1 q2 q3 q4 q5
    by_cases hc : r < 0
    · rw [if_pos hc] at HV2 HE2
      subst HV2; subst HE2
      go_wp2_with fail
      all_goals
        refine bodyPost_ret (v := .tuple #[.int .i64 0, .int .i64 4]) (by simp [results, Tryd.results27, go_sem, *]) rfl ⟨rfl, B2.out⟩
    · rw [if_neg hc] at HV2 HE2
      subst HE2
      obtain rfl : V = r := HV2
      go_wp2_with fail
      all_goals
        refine bodyPost_ret (v := .tuple #[.int .i64 V, .int .i64 0]) (by simp [results, Tryd.results27, go_sem, *]) rfl ⟨rfl, B2.out⟩
end Go.Proofs.YtokipobjpinhmaaDoor
namespace Go.Proofs.YtokipobjpinhmaaDoor
open Go.RowKit Go.Shelf
set_option maxHeartbeats 4000000
set_option maxRecDepth 100000
set_option linter.unusedVariables false
set_option linter.unusedSimpArgs false
/-- what is known of the sizes of a written program -/
def Wb (p : Prg) : Prop := 1 ≤ p.ins.length ∧ 1 ≤ p.outs.length ∧ p.ins.length ≤ 20 ∧ p.vrs.length ≤ 20 ∧ p.outs.length ≤ 20 ∧ p.lns.length ≤ 40 ∧ ∀ j, j < p.lns.length → exB (lrx p.lns j) = true
theorem wb_of (p : Prg) (h : wrtB p = true) : Wb p := by
  simp [wrtB, nmsB, lnsB] at h
  obtain ⟨⟨⟨⟨⟨⟨⟨_, _⟩, h1⟩, h2⟩, h3⟩, h4⟩, h5⟩, h6⟩ := h
  refine ⟨h1, h2, h3.2, h4.2, h5.2, h6.2, fun j hj => ?_⟩
  have := List.all_eq_true.1 h6.1.1 j (by simpa using hj)
  simp [lnOk] at this
  exact this.2
theorem Wb.len {p : Prg} (h : Wb p) (j : Nat) (hj : j < p.lns.length) : (lrx p.lns j).length ≤ 40 := (exB_parts _ (h.2.2.2.2.2.2 j hj)).1
theorem nmx_two (w : World) (T : TypeId) (b0 b1 n0 n1 c0 c1 : Nat) (W0 W1 : List (List UInt8)) (h0 : Sts w (some ⟨b0, 0, none⟩) n0 W0) (h1 : Sts w (some ⟨b1, 0, none⟩) n1 W1) : Nmx (w.alloc (.cells #[.slice (some ⟨b0, 0, none⟩) n0 c0, .slice (some ⟨b1, 0, none⟩) n1 c1] T)) (some ⟨w.heap.size, 0, none⟩) 2 [W0, W1] := by
  have hl : Later w (w.alloc (.cells #[.slice (some ⟨b0, 0, none⟩) n0 c0, .slice (some ⟨b1, 0, none⟩) n1 c1] T)) := (Later.refl _).alloc _
  refine ⟨rfl, fun j hj => ?_⟩
  match j, hj with
  | 0, _ => exact ⟨_, 0, b0, 0, n0, c0, rfl, by rw [cell_of_row _ _ 0 _ T (0, 0) (heap_alloc_new w _)]; rfl, h0.later hl⟩
  | 1, _ => exact ⟨_, 0, b1, 0, n1, c1, rfl, by rw [cell_of_row _ _ 1 _ T (0, 0) (heap_alloc_new w _)]; rfl, h1.later hl⟩
theorem nmx_three (w : World) (T : TypeId) (b0 b1 b2 n0 n1 n2 c0 c1 c2 : Nat) (W0 W1 W2 : List (List UInt8)) (h0 : Sts w (some ⟨b0, 0, none⟩) n0 W0) (h1 : Sts w (some ⟨b1, 0, none⟩) n1 W1) (h2 : Sts w (some ⟨b2, 0, none⟩) n2 W2) : Nmx (w.alloc (.cells #[.slice (some ⟨b0, 0, none⟩) n0 c0, .slice (some ⟨b1, 0, none⟩) n1 c1, .slice (some ⟨b2, 0, none⟩) n2 c2] T)) (some ⟨w.heap.size, 0, none⟩) 3 [W0, W1, W2] := by
  have hl : Later w (w.alloc (.cells #[.slice (some ⟨b0, 0, none⟩) n0 c0, .slice (some ⟨b1, 0, none⟩) n1 c1, .slice (some ⟨b2, 0, none⟩) n2 c2] T)) := (Later.refl _).alloc _
  refine ⟨rfl, fun j hj => ?_⟩
  match j, hj with
  | 0, _ => exact ⟨_, 0, b0, 0, n0, c0, rfl, by rw [cell_of_row _ _ 0 _ T (0, 0) (heap_alloc_new w _)]; rfl, h0.later hl⟩
  | 1, _ => exact ⟨_, 0, b1, 0, n1, c1, rfl, by rw [cell_of_row _ _ 1 _ T (0, 0) (heap_alloc_new w _)]; rfl, h1.later hl⟩
  | 2, _ => exact ⟨_, 0, b2, 0, n2, c2, rfl, by rw [cell_of_row _ _ 2 _ T (0, 0) (heap_alloc_new w _)]; rfl, h2.later hl⟩
theorem concat2 (b0 b1 n0 n1 c0 c1 : Nat) (W0 W1 : List (List UInt8)) (w W : World) (h : Nat) (T : TypeId) (hl : Later w W) (hh : W.heap.size = h) (h0 : Sts w (some ⟨b0, 0, none⟩) n0 W0) (h1 : Sts w (some ⟨b1, 0, none⟩) n1 W1) (z0 : n0 ≤ 1000) (z1 : n1 ≤ 1000) (hz : 0 < n0 + n1) :
    Calls Tryd.prog 70 #[.slice (some ⟨h, 0, none⟩) 2 2] (W.alloc (.cells #[.slice (some ⟨b0, 0, none⟩) n0 c0, .slice (some ⟨b1, 0, none⟩) n1 c1] T)) (RetTs W (W0 ++ W1)) := by
  subst hh
  have e0 := h0.1; have e1 := h1.1
  refine (i_ConcatN _ 2 2 [W0, W1] _ (nmx_two W T b0 b1 n0 n1 c0 c1 W0 W1 (h0.later hl) (h1.later hl)) (by omega) (take_le2 W0 W1 10000 (by omega)) (by simp; omega)).mono ?_
  rintro e w' ⟨u, rfl, ho, hb⟩
  have ef : [W0, W1].flatten = W0 ++ W1 := by simp
  rw [ef] at ho
  exact ⟨u, rfl, ownT_monoN ho (Later.size ((Later.refl W).alloc _)), Later.trans ((Later.refl _).alloc _) hb⟩
theorem concat3 (b0 b1 b2 n0 n1 n2 c0 c1 c2 : Nat) (W0 W1 W2 : List (List UInt8)) (w W : World) (h : Nat) (T : TypeId) (hl : Later w W) (hh : W.heap.size = h) (h0 : Sts w (some ⟨b0, 0, none⟩) n0 W0) (h1 : Sts w (some ⟨b1, 0, none⟩) n1 W1) (h2 : Sts w (some ⟨b2, 0, none⟩) n2 W2) (z0 : n0 ≤ 1000) (z1 : n1 ≤ 1000) (z2 : n2 ≤ 1000) (hz : 0 < n0 + n1 + n2) :
    Calls Tryd.prog 70 #[.slice (some ⟨h, 0, none⟩) 3 3] (W.alloc (.cells #[.slice (some ⟨b0, 0, none⟩) n0 c0, .slice (some ⟨b1, 0, none⟩) n1 c1, .slice (some ⟨b2, 0, none⟩) n2 c2] T)) (RetTs W (W0 ++ W1 ++ W2)) := by
  subst hh
  have e0 := h0.1; have e1 := h1.1; have e2 := h2.1
  refine (i_ConcatN _ 3 3 [W0, W1, W2] _ (nmx_three W T b0 b1 b2 n0 n1 n2 c0 c1 c2 W0 W1 W2 (h0.later hl) (h1.later hl) (h2.later hl)) (by omega) (take_le3 W0 W1 W2 10000 (by omega)) (by simp; omega)).mono ?_
  rintro e w' ⟨u, rfl, ho, hb⟩
  have ef : [W0, W1, W2].flatten = W0 ++ W1 ++ W2 := by simp
  rw [ef] at ho
  exact ⟨u, rfl, ownT_monoN ho (Later.size ((Later.refl W).alloc _)), Later.trans ((Later.refl _).alloc _) hb⟩
theorem RetTs.lift {w W : World} {S : List (List UInt8)} {e : Ending} {w' : World} (h : RetTs W S e w') (hl : Later w W) : RetTs w S e w' := by
  obtain ⟨u, rfl, ho, hb⟩ := h
  exact ⟨u, rfl, ownT_monoN ho hl.size, hl.trans hb⟩
theorem nameSet2a (a0 a1 : Option Addr) (n0 n1 c0 c1 : Nat) (W0 W1 : List (List UInt8)) (w W : World) (h : Nat) (T : TypeId) (hl : Later w W) (hh : W.heap.size = h) (h0 : Sts w a0 n0 W0) (h1 : Sts w a1 n1 W1) (z0 : n0 ≤ 1048576) (z1 : n1 ≤ 1048576) :
    Calls Tryd.prog 76 #[.slice (some ⟨h, 0, none⟩) 2 2] (W.alloc (.cells #[.slice a0 n0 c0, .slice a1 n1 c1] T)) (RetN W (W0 ++ W1)) := by
  subst hh
  exact nameSet2 a0 a1 n0 n1 c0 c1 W0 W1 T W (h0.later hl) (h1.later hl) z0 z1
theorem RetN.lift {w W : World} {S : List (List UInt8)} {e : Ending} {w' : World} (h : RetN W S e w') (hl : Later w W) : RetN w S e w' := by
  obtain ⟨u, rfl, ho, hb⟩ := h
  exact ⟨u, rfl, ho, hl.trans hb⟩
theorem i_declared (base : Nat) (v : Value) (p : Prg) (w : World) (hp : PgC base w v p) (hb : Wb p) : Calls Tryd.prog 77 #[v] w (RetTs w (p.ins ++ p.vrs ++ p.outs)) := by
  obtain ⟨g1, g2, g3, g4, rfl, _, ⟨h1, _⟩, ⟨h2, _⟩, ⟨h3, _⟩, _, _, _⟩ := hp
  obtain ⟨b1, b2, b3, b4, b5, _, _⟩ := hb
  have HC := Lib.hid (fun W h T hl hh => concat3 g1 g2 g3 p.ins.length p.vrs.length p.outs.length p.ins.length p.vrs.length p.outs.length p.ins p.vrs p.outs w W h T hl hh h1 h2 h3 (by omega) (by omega) (by omega) (by omega))
  obtain ⟨s0, hs0⟩ : ∃ q, q = tx p.nm := ⟨_, rfl⟩
  obtain ⟨s4, hs4⟩ : ∃ q, q = tx p.grd := ⟨_, rfl⟩
  obtain ⟨n1, hn1⟩ : ∃ q, q = p.ins.length := ⟨_, rfl⟩
  obtain ⟨n2, hn2⟩ : ∃ q, q = p.vrs.length := ⟨_, rfl⟩
  obtain ⟨n3, hn3⟩ : ∃ q, q = p.outs.length := ⟨_, rfl⟩
  obtain ⟨n4, hn4⟩ : ∃ q, q = p.lns.length := ⟨_, rfl⟩
  simp only [← hs0, ← hs4, ← hn1, ← hn2, ← hn3, ← hn4] at h1 h2 h3 b1 b2 b3 b4 b5 HC ⊢
  clear hs0 hs4 hn1 hn2 hn3 hn4
  have q1 : (w.alloc (.cells #[.string s0, .slice (some ⟨g1, 0, none⟩) n1 n1, .slice (some ⟨g2, 0, none⟩) n2 n2, .slice (some ⟨g3, 0, none⟩) n3 n3, .string s4, .slice (some ⟨g4, 0, none⟩) n4 n4] 27)).cell? ⟨w.heap.size, 1, none⟩ = some (.slice (some ⟨g1, 0, none⟩) n1 n1) := by rw [cell_of_row _ _ 1 _ _ (0, 0) (heap_alloc_new w _)]; rfl
  have q2 : (w.alloc (.cells #[.string s0, .slice (some ⟨g1, 0, none⟩) n1 n1, .slice (some ⟨g2, 0, none⟩) n2 n2, .slice (some ⟨g3, 0, none⟩) n3 n3, .string s4, .slice (some ⟨g4, 0, none⟩) n4 n4] 27)).cell? ⟨w.heap.size, 2, none⟩ = some (.slice (some ⟨g2, 0, none⟩) n2 n2) := by rw [cell_of_row _ _ 2 _ _ (0, 0) (heap_alloc_new w _)]; rfl
  have q3 : (w.alloc (.cells #[.string s0, .slice (some ⟨g1, 0, none⟩) n1 n1, .slice (some ⟨g2, 0, none⟩) n2 n2, .slice (some ⟨g3, 0, none⟩) n3 n3, .string s4, .slice (some ⟨g4, 0, none⟩) n4 n4] 27)).cell? ⟨w.heap.size, 3, none⟩ = some (.slice (some ⟨g3, 0, none⟩) n3 n3) := by rw [cell_of_row _ _ 3 _ _ (0, 0) (heap_alloc_new w _)]; rfl
  have A0 : Hid (Later w (w.alloc (.cells #[.string s0, .slice (some ⟨g1, 0, none⟩) n1 n1, .slice (some ⟨g2, 0, none⟩) n2 n2, .slice (some ⟨g3, 0, none⟩) n3 n3, .string s4, .slice (some ⟨g4, 0, none⟩) n4 n4] 27))) := Lib.hid ((Later.refl _).alloc _)
  clear h1 h2 h3 b1 b2 b3 b4 b5
  go_enter Tryd.func77, Tryd.ntmps77
  go_wp2_with (go_at_call 70; refine (HC.out _ _ _ A0.out (by first | rfl | exact World.size_alloc _ _)).mono ?_; rintro e w1 ⟨u, rfl, ho, hb⟩; have O1 := Lib.hid ho; have B1 := Lib.hid hb; clear ho hb)
  go_ret
  exact RetTs.lift ⟨u, rfl, O1.out, B1.out⟩ A0.out
theorem i_assignable (base : Nat) (v : Value) (p : Prg) (w : World) (hp : PgC base w v p) (hb : Wb p) : Calls Tryd.prog 119 #[v] w (RetTs w (p.vrs ++ p.outs)) := by
  obtain ⟨g1, g2, g3, g4, rfl, _, ⟨h1, _⟩, ⟨h2, _⟩, ⟨h3, _⟩, _, _, _⟩ := hp
  obtain ⟨b1, b2, b3, b4, b5, _, _⟩ := hb
  have HC := Lib.hid (fun W h T hl hh => concat2 g2 g3 p.vrs.length p.outs.length p.vrs.length p.outs.length p.vrs p.outs w W h T hl hh h2 h3 (by omega) (by omega) (by omega))
  obtain ⟨s0, hs0⟩ : ∃ q, q = tx p.nm := ⟨_, rfl⟩
  obtain ⟨s4, hs4⟩ : ∃ q, q = tx p.grd := ⟨_, rfl⟩
  obtain ⟨n1, hn1⟩ : ∃ q, q = p.ins.length := ⟨_, rfl⟩
  obtain ⟨n2, hn2⟩ : ∃ q, q = p.vrs.length := ⟨_, rfl⟩
  obtain ⟨n3, hn3⟩ : ∃ q, q = p.outs.length := ⟨_, rfl⟩
  obtain ⟨n4, hn4⟩ : ∃ q, q = p.lns.length := ⟨_, rfl⟩
  simp only [← hs0, ← hs4, ← hn1, ← hn2, ← hn3, ← hn4] at h1 h2 h3 b1 b2 b3 b4 b5 HC ⊢
  clear hs0 hs4 hn1 hn2 hn3 hn4
  have q2 : (w.alloc (.cells #[.string s0, .slice (some ⟨g1, 0, none⟩) n1 n1, .slice (some ⟨g2, 0, none⟩) n2 n2, .slice (some ⟨g3, 0, none⟩) n3 n3, .string s4, .slice (some ⟨g4, 0, none⟩) n4 n4] 27)).cell? ⟨w.heap.size, 2, none⟩ = some (.slice (some ⟨g2, 0, none⟩) n2 n2) := by rw [cell_of_row _ _ 2 _ _ (0, 0) (heap_alloc_new w _)]; rfl
  have q3 : (w.alloc (.cells #[.string s0, .slice (some ⟨g1, 0, none⟩) n1 n1, .slice (some ⟨g2, 0, none⟩) n2 n2, .slice (some ⟨g3, 0, none⟩) n3 n3, .string s4, .slice (some ⟨g4, 0, none⟩) n4 n4] 27)).cell? ⟨w.heap.size, 3, none⟩ = some (.slice (some ⟨g3, 0, none⟩) n3 n3) := by rw [cell_of_row _ _ 3 _ _ (0, 0) (heap_alloc_new w _)]; rfl
  have A0 : Hid (Later w (w.alloc (.cells #[.string s0, .slice (some ⟨g1, 0, none⟩) n1 n1, .slice (some ⟨g2, 0, none⟩) n2 n2, .slice (some ⟨g3, 0, none⟩) n3 n3, .string s4, .slice (some ⟨g4, 0, none⟩) n4 n4] 27))) := Lib.hid ((Later.refl _).alloc _)
  clear h1 h2 h3 b1 b2 b3 b4 b5
  go_enter Tryd.func119, Tryd.ntmps119
  go_wp2_with (go_at_call 70; refine (HC.out _ _ _ A0.out (by first | rfl | exact World.size_alloc _ _)).mono ?_; rintro e w1 ⟨u, rfl, ho, hb⟩; have O1 := Lib.hid ho; have B1 := Lib.hid hb; clear ho hb)
  go_ret
  exact RetTs.lift ⟨u, rfl, O1.out, B1.out⟩ A0.out
theorem i_readable (base : Nat) (v : Value) (p : Prg) (w : World) (hp : PgC base w v p) (hb : Wb p) : Calls Tryd.prog 118 #[v] w (RetN w (p.ins ++ p.vrs)) := by
  obtain ⟨g1, g2, g3, g4, rfl, _, ⟨h1, _⟩, ⟨h2, _⟩, ⟨h3, _⟩, _, _, _⟩ := hp
  obtain ⟨b1, b2, b3, b4, b5, _, _⟩ := hb
  have HC := Lib.hid (fun W h T hl hh => nameSet2a (some ⟨g1, 0, none⟩) (some ⟨g2, 0, none⟩) p.ins.length p.vrs.length p.ins.length p.vrs.length p.ins p.vrs w W h T hl hh h1 h2 (by omega) (by omega))
  obtain ⟨s0, hs0⟩ : ∃ q, q = tx p.nm := ⟨_, rfl⟩
  obtain ⟨s4, hs4⟩ : ∃ q, q = tx p.grd := ⟨_, rfl⟩
  obtain ⟨n1, hn1⟩ : ∃ q, q = p.ins.length := ⟨_, rfl⟩
  obtain ⟨n2, hn2⟩ : ∃ q, q = p.vrs.length := ⟨_, rfl⟩
  obtain ⟨n3, hn3⟩ : ∃ q, q = p.outs.length := ⟨_, rfl⟩
  obtain ⟨n4, hn4⟩ : ∃ q, q = p.lns.length := ⟨_, rfl⟩
  simp only [← hs0, ← hs4, ← hn1, ← hn2, ← hn3, ← hn4] at h1 h2 h3 b1 b2 b3 b4 b5 HC ⊢
  clear hs0 hs4 hn1 hn2 hn3 hn4
  have q1 : (w.alloc (.cells #[.string s0, .slice (some ⟨g1, 0, none⟩) n1 n1, .slice (some ⟨g2, 0, none⟩) n2 n2, .slice (some ⟨g3, 0, none⟩) n3 n3, .string s4, .slice (some ⟨g4, 0, none⟩) n4 n4] 27)).cell? ⟨w.heap.size, 1, none⟩ = some (.slice (some ⟨g1, 0, none⟩) n1 n1) := by rw [cell_of_row _ _ 1 _ _ (0, 0) (heap_alloc_new w _)]; rfl
  have q2 : (w.alloc (.cells #[.string s0, .slice (some ⟨g1, 0, none⟩) n1 n1, .slice (some ⟨g2, 0, none⟩) n2 n2, .slice (some ⟨g3, 0, none⟩) n3 n3, .string s4, .slice (some ⟨g4, 0, none⟩) n4 n4] 27)).cell? ⟨w.heap.size, 2, none⟩ = some (.slice (some ⟨g2, 0, none⟩) n2 n2) := by rw [cell_of_row _ _ 2 _ _ (0, 0) (heap_alloc_new w _)]; rfl
  have A0 : Hid (Later w (w.alloc (.cells #[.string s0, .slice (some ⟨g1, 0, none⟩) n1 n1, .slice (some ⟨g2, 0, none⟩) n2 n2, .slice (some ⟨g3, 0, none⟩) n3 n3, .string s4, .slice (some ⟨g4, 0, none⟩) n4 n4] 27))) := Lib.hid ((Later.refl _).alloc _)
  clear h1 h2 h3 b1 b2 b3 b4 b5
  go_enter Tryd.func118, Tryd.ntmps118
  go_wp2_with (go_at_call 76; refine (HC.out _ _ _ A0.out (by first | rfl | exact World.size_alloc _ _)).mono ?_; rintro e w1 ⟨u, rfl, ho, hb⟩; have O1 := Lib.hid ho; have B1 := Lib.hid hb; clear ho hb)
  go_ret
  exact RetN.lift ⟨u, rfl, O1.out, B1.out⟩ A0.out
theorem nmV_take (M : List Lne) (k : Nat) (h : k < M.length) : nmV (M.take (k + 1)) = nmV (M.take k) ++ nmT (lrx M k) := by
  rw [List.take_succ_eq_append_getElem h, lx_at M k h]
  simp [nmV]
theorem nmT_take (L : List Trm) (j : Nat) (h : j < L.length) : nmT (L.take (j + 1)) = if rkx L j = 1 then nmT (L.take j) ++ [rsx L j] else nmT (L.take j) := by
  rw [List.take_succ_eq_append_getElem h, rk_at L j h]
  unfold nmT
  rw [List.filter_append, List.map_append]
  by_cases e : rkx L j = 1 <;> simp [e]
theorem nmT_len (L : List Trm) : (nmT L).length ≤ L.length := by
  unfold nmT; rw [List.length_map]; exact List.length_filter_le _ _
theorem nmV_len (M : List Lne) (h : ∀ j, j < M.length → (lrx M j).length ≤ 40) : ∀ k, k ≤ M.length → (nmV (M.take k)).length ≤ 40 * k
  | 0, _ => by simp [nmV]
  | k + 1, hk => by
    rw [nmV_take M k hk, List.length_append]
    have := nmV_len M h k (by omega)
    have h1 := nmT_len (lrx M k)
    have h2 := h k hk
    omega
theorem i_used (v : Value) (p : Prg) (w : World) (hp : PgV w v p) (hb : Wb p) : Calls Tryd.prog 121 #[v] w (RetTs w (nmV p.lns)) := by
  obtain ⟨a1, c1, a2, c2, a3, c3, a4, c4, rfl, h1, h2, h3, h4, h5, h6⟩ := hp
  have P4 := Lib.hid h4
  have HK := Lib.hid (fun k h => nmV_take p.lns k h)
  have HF : Hid (nmV (p.lns.take p.lns.length) = nmV p.lns) := Lib.hid (by rw [List.take_length])
  have HZ : Hid (∀ k, k ≤ p.lns.length → (nmV (p.lns.take k)).length ≤ 40 * k) := Lib.hid (nmV_len p.lns (fun j h => hb.len j h))
  have HB := Lib.hid (fun j h => hb.len j h)
  have hl : p.lns.length ≤ 40 := hb.2.2.2.2.2.1
  clear h1 h2 h3 h4 h5 h6 hb
  obtain ⟨s0, hs0⟩ : ∃ q, q = tx p.nm := ⟨_, rfl⟩
  obtain ⟨s4, hs4⟩ : ∃ q, q = tx p.grd := ⟨_, rfl⟩
  obtain ⟨n1, hn1⟩ : ∃ q, q = p.ins.length := ⟨_, rfl⟩
  obtain ⟨n2, hn2⟩ : ∃ q, q = p.vrs.length := ⟨_, rfl⟩
  obtain ⟨n3, hn3⟩ : ∃ q, q = p.outs.length := ⟨_, rfl⟩
  obtain ⟨n4, hn4⟩ : ∃ q, q = p.lns.length := ⟨_, rfl⟩
  simp only [← hs0, ← hs4, ← hn1, ← hn2, ← hn3, ← hn4] at P4 HK HF HZ HB hl ⊢
  generalize p.lns = M at *
  clear hs0 hs4 hn1 hn2 hn3 hn4
  have q5 : (w.alloc (.cells #[.string s0, .slice a1 n1 c1, .slice a2 n2 c2, .slice a3 n3 c3, .string s4, .slice a4 n4 c4] 27)).cell? ⟨w.heap.size, 5, none⟩ = some (.slice a4 n4 c4) := by rw [cell_of_row _ _ 5 _ _ (0, 0) (heap_alloc_new w _)]; rfl
  have A0 : Hid (Later w (w.alloc (.cells #[.string s0, .slice a1 n1 c1, .slice a2 n2 c2, .slice a3 n3 c3, .string s4, .slice a4 n4 c4] 27))) := Lib.hid ((Later.refl _).alloc _)
  go_enter Tryd.func121, Tryd.ntmps121
  go_wp2_with fail
  generalize (w.alloc (.cells #[.string s0, .slice a1 n1 c1, .slice a2 n2 c2, .slice a3 n3 c3, .string s4, .slice a4 n4 c4] 27)) = W0 at A0 q5 ⊢
  go_loopw [3, 11] (fun s i wr => ∃ k : Nat, k ≤ n4 ∧ i = .int .i64 k ∧ OwnT wr w.heap.size s (nmV (M.take k)) ∧ Later w wr) (fun _ i _ => n4 - (intOf i).toNat)
  case atStart => exact ⟨0, by omega, rfl, ⟨rfl, .inl ⟨rfl, rfl⟩⟩, A0.out⟩
  case round =>
    clear q5
    obtain ⟨k, hk, rfl, ho, hb⟩ := hrel
    have B3 := Lib.hid hb
    have O3 := Lib.hid ho
    clear ho
    by_cases hlt : k < n4
    · obtain ⟨b, off, ta, tc, rfl, c00, c01, c2⟩ := P4.out.2.2.1 k hlt
      have c0 : wr.cell? ⟨b, off + k * 2, none⟩ = some (.string (tx (ltx M k))) := by rw [hb.cell (p := ⟨b, off + k * 2, none⟩) (cell_lt c00)]; exact c00
      have c1 : wr.cell? ⟨b, off + k * 2 + 1, none⟩ = some (.slice ta (lrx M k).length tc) := by rw [hb.cell (p := ⟨b, off + k * 2 + 1, none⟩) (cell_lt c01)]; exact c01
      have HE := Lib.hid (HK.out k hlt)
      have hz := HZ.out k hk
      have h40 := HB.out k hlt
      have HS := Lib.hid c2
      generalize ltx M k = yy at c0
      obtain ⟨Y, hY⟩ : ∃ Y, Y = tx yy := ⟨_, rfl⟩
      rw [← hY] at c0
      generalize lrx M k = L at *
      have HJ := Lib.hid (fun j h => nmT_take L j h)
      have HLF : Hid (nmT (L.take L.length) = nmT L) := Lib.hid (by rw [List.take_length])
      have HQ := Lib.hid (fun j => nmT_len (L.take j))
      generalize nmV (M.take k) = T0 at O3 HE hz
      obtain ⟨q, hq⟩ : ∃ q, q = L.length := ⟨_, rfl⟩
      rw [← hq] at c1 h40 HS HJ HLF
      clear c00 c01 c2 hb hY hq
      go_wp2_with fail
      go_loopw [3, 18] (fun s i w5 => ∃ j : Nat, j ≤ q ∧ i = .int .i64 j ∧ OwnT w5 w.heap.size s (T0 ++ nmT (L.take j)) ∧ Later w w5) (fun _ i _ => q - (intOf i).toNat)
      case atStart => exact ⟨0, by omega, rfl, by simpa [nmT] using O3.out.later (by repeat (first | (with_reducible exact Later.refl _) | (with_reducible exact Hid.out (by assumption)) | (with_reducible refine Later.alloc ?_ _) | (with_reducible refine Later.setCell ?_ (by simp; omega) _) | (with_reducible refine Later.setCell ?_ (by simp) _) | (with_reducible refine Later.drewN ?_ _) | (with_reducible refine Later.drew ?_) | (with_reducible refine Later.trans ?_ (Hid.out (by assumption))))), Later.trans B3.out (by repeat (first | (with_reducible exact Later.refl _) | (with_reducible exact Hid.out (by assumption)) | (with_reducible refine Later.alloc ?_ _) | (with_reducible refine Later.setCell ?_ (by simp; omega) _) | (with_reducible refine Later.setCell ?_ (by simp) _) | (with_reducible refine Later.drewN ?_ _) | (with_reducible refine Later.drew ?_) | (with_reducible refine Later.trans ?_ (Hid.out (by assumption)))))⟩
      case round =>
        clear c0 c1
        obtain ⟨j, hj, rfl, ho, hb⟩ := hrel
        have B5 := Lib.hid hb
        have O5 := Lib.hid ho
        clear ho
        by_cases hlt2 : j < q
        · obtain ⟨b2, off2, rfl, d0, d1, d2⟩ := (HS.out.later hb).2.2.1 j hlt2
          have HJ2 := Lib.hid (HJ.out j hlt2)
          have hqq : (T0 ++ nmT (L.take j)).length ≤ 100000 := by have := HQ.out j; rw [List.length_append]; simp at this; omega
          have HQQ := Lib.hid hqq
          obtain ⟨y, hy⟩ : ∃ y, y = rsx L j := ⟨_, rfl⟩
          rw [← hy] at d1 HJ2
          obtain ⟨X, hX⟩ : ∃ X, X = tx y := ⟨_, rfl⟩
          rw [← hX] at d1
          have HX := Lib.hid hX
          generalize rkx L j = kd at d0 HJ2
          generalize rnx L j = nb at d2
          generalize nmT (L.take j) = T1 at *
          clear hy hX hb hqq
          by_cases he : kd = 1
          · subst he
            have HJ3 := HJ2.out
            rw [if_pos rfl] at HJ3
            have HE3 := Lib.hid HJ3
            clear HJ3
            go_wp2_with (at_builtin; go_must (rw [HX.out]; refine app1T rfl _ _ rfl w.heap.size _ _ _ (T0 ++ T1) y (O5.out.later (by repeat (first | (with_reducible exact Later.refl _) | (with_reducible exact Hid.out (by assumption)) | (with_reducible refine Later.alloc ?_ _) | (with_reducible refine Later.setCell ?_ (by simp; omega) _) | (with_reducible refine Later.setCell ?_ (by simp) _) | (with_reducible refine Later.drewN ?_ _) | (with_reducible refine Later.drew ?_) | (with_reducible refine Later.trans ?_ (Hid.out (by assumption)))))) rfl (by first | rfl | (simp only [World.heap_drewN, World.size_alloc]; rfl)) (by have := HQQ.out; omega) (Later.size (by repeat (first | (with_reducible exact Later.refl _) | (with_reducible exact Hid.out (by assumption)) | (with_reducible refine Later.alloc ?_ _) | (with_reducible refine Later.setCell ?_ (by simp; omega) _) | (with_reducible refine Later.setCell ?_ (by simp) _) | (with_reducible refine Later.drewN ?_ _) | (with_reducible refine Later.drew ?_) | (with_reducible refine Later.trans ?_ (Hid.out (by assumption)))))) ?_; intro v6 w6 ho hgr))
            have O6 := Lib.hid ho
            rw [List.append_assoc, ← HE3.out] at O6
            have B6 : Hid (Later w w6) := Lib.hid (Below.grown (show Later w _ from (by repeat (first | (with_reducible exact Later.refl _) | (with_reducible exact Hid.out (by assumption)) | (with_reducible refine Later.alloc ?_ _) | (with_reducible refine Later.setCell ?_ (by simp; omega) _) | (with_reducible refine Later.setCell ?_ (by simp) _) | (with_reducible refine Later.drewN ?_ _) | (with_reducible refine Later.drew ?_) | (with_reducible refine Later.trans ?_ (Hid.out (by assumption)))))) hgr (Later.size (by repeat (first | (with_reducible exact Later.refl _) | (with_reducible exact Hid.out (by assumption)) | (with_reducible refine Later.alloc ?_ _) | (with_reducible refine Later.setCell ?_ (by simp; omega) _) | (with_reducible refine Later.setCell ?_ (by simp) _) | (with_reducible refine Later.drewN ?_ _) | (with_reducible refine Later.drew ?_) | (with_reducible refine Later.trans ?_ (Hid.out (by assumption)))))) (fun j hj => (O5.out.lt j hj).1))
            clear ho hgr
            go_roundw
            case rel => exact ⟨j + 1, by omega, by go_num, O6.out, B6.out⟩
            case measure => simp [intOf]; omega
          · have HJ3 := HJ2.out
            rw [if_neg he] at HJ3
            have HE3 := Lib.hid HJ3
            have hne : (kd == 1) = false := by simpa using he
            clear HJ3 he
            go_wp2_with fail
            go_roundw
            case rel => exact ⟨j + 1, by omega, by go_num, by rw [HE3.out]; exact O5.out.later (by repeat (first | (with_reducible exact Later.refl _) | (with_reducible exact Hid.out (by assumption)) | (with_reducible refine Later.alloc ?_ _) | (with_reducible refine Later.setCell ?_ (by simp; omega) _) | (with_reducible refine Later.setCell ?_ (by simp) _) | (with_reducible refine Later.drewN ?_ _) | (with_reducible refine Later.drew ?_) | (with_reducible refine Later.trans ?_ (Hid.out (by assumption))))), (by repeat (first | (with_reducible exact Later.refl _) | (with_reducible exact Hid.out (by assumption)) | (with_reducible refine Later.alloc ?_ _) | (with_reducible refine Later.setCell ?_ (by simp; omega) _) | (with_reducible refine Later.setCell ?_ (by simp) _) | (with_reducible refine Later.drewN ?_ _) | (with_reducible refine Later.drew ?_) | (with_reducible refine Later.trans ?_ (Hid.out (by assumption)))))⟩
            case measure => simp [intOf]; omega
        · obtain rfl : j = q := by omega
          have O7 : Hid (OwnT wr w.heap.size _ (T0 ++ nmT L)) := Lib.hid (by have h := O5.out; rw [HLF.out] at h; exact h)
          rw [← HE.out] at O7
          clear hb
          go_wp2_with fail
          go_roundw
          case rel => exact ⟨k + 1, by omega, by go_num, O7.out, B5.out⟩
          case measure => simp [intOf]; omega
    · obtain rfl : k = n4 := by omega
      clear hb
      go_wp2_with fail
      go_ret
      exact ⟨_, rfl, by rw [← HF.out]; exact O3.out, B3.out⟩
end Go.Proofs.YtokipobjpinhmaaDoor
namespace Go.Proofs.YtokipobjpinhmaaDoor
open Go.RowKit Go.Shelf
set_option maxHeartbeats 4000000
set_option maxRecDepth 100000
set_option linter.unusedVariables false
set_option linter.unusedSimpArgs false
/-- term j is the name x -/
def eqT (L : List Trm) (x : List UInt8) (j : Nat) : Bool := decide (rkx L j = 1) && (decide (rsx L j = x) && decide (rnx L j = 0))
def ctV (L : List Trm) (x : List UInt8) : Bool := (List.range L.length).any (eqT L x)
theorem ctV_hit (L : List Trm) (x : List UInt8) (j : Nat) (h : j < L.length) (he : eqT L x j = true) : ctV L x = true :=
  List.any_eq_true.2 ⟨j, by simpa using h, he⟩
theorem ctV_miss (L : List Trm) (x : List UInt8) (h : ∀ j, j < L.length → eqT L x j = false) : ctV L x = false := by
  cases hb : ctV L x with
  | false => rfl
  | true =>
    obtain ⟨j, hj, he⟩ := List.any_eq_true.1 hb
    rw [h j (by simpa using hj)] at he; cases he
theorem ctV_us (L : List Trm) (x : List UInt8) (h : exB L = true) : ctV L x = usB L x := by
  have hk := (exB_parts L h).2.1
  by_cases hu : ∃ j, j < L.length ∧ rkx L j = 1 ∧ rsx L j = x
  · obtain ⟨j, hj, h1, h2⟩ := hu
    rw [usB_hit L x j hj h1 h2]
    refine ctV_hit L x j hj ?_
    have := hk j hj
    simp [okR, trmB, h1, cntK] at this
    unfold eqT
    simp [h1, h2, this]
  · rw [usB_miss L x (fun j hj hh => hu ⟨j, hj, hh⟩)]
    refine ctV_miss L x fun j hj => ?_
    cases hb : eqT L x j with
    | false => rfl
    | true =>
      unfold eqT at hb
      simp at hb
      exact absurd ⟨j, hj, hb.1, hb.2.1⟩ hu
theorem eqTrmQ (a b : Int) (x y : ByteArray) (c d : Int) (w : World) : (Op.equalIn 10000 84 (.agg #[.int .i64 a, .string x, .int .i64 c]) (.agg #[.int .i64 b, .string y, .int .i64 d])).run Tryd.prog w = .ok (a == b && (x.toList == y.toList && c == d)) w := by
  have u3 := Tryd.underlying2
  have a3 := Tryd.isAgg2
  have z3 := Tryd.sizeOf2
  have u9 := Tryd.underlying9
  have a9 := Tryd.isAgg9
  have z9 := Tryd.sizeOf9
  have hS : Tryd.prog.underlying 84 = some (.struct (Tryd.prog.fieldsOf 84)) := by kernel_rfl
  rw [show (10000 : Nat) = 9999 + 1 from rfl, run_equalIn_agg w 9999 _ _ _ hS (by kernel_rfl)]
  simp only [Program.fieldsOf, Tryd.underlying84]
  go_simp
  by_cases h1 : a = b <;> by_cases h2 : x.toList = y.toList <;> by_cases h3 : c = d <;> simp [h1, h2, h3]
theorem i_IndexR (a : Option Addr) (n cap : Nat) (L : List Trm) (x : List UInt8) (w : World) (hs : Trs w a n L) :
    Calls Tryd.prog 124 #[.slice a n cap, .agg #[.int .i64 1, .string (tx x), .int .i64 0]] w fun e w' => ∃ r : Int, e = .returned (.int .i64 r) ∧ decide (0 ≤ r) = ctV L x ∧ Later w w' := by
  have heq := eqTrmQ
  have HS := Lib.hid hs
  have HL := Lib.hid hs.1
  have hn := hs.2.1
  have EQ := Lib.hid (fun y => eqx x y)
  have RH := Lib.hid (fun j h1 h2 => ctV_hit L x j h1 h2)
  have RM := Lib.hid (fun h => ctV_miss L x h)
  have HET : Hid (∀ j, eqT L x j = (decide (rkx L j = 1) && (decide (rsx L j = x) && decide (rnx L j = 0)))) := Lib.hid (fun _ => rfl)
  generalize ctV L x = V at RH RM ⊢
  obtain ⟨X, hX⟩ : ∃ X, X = tx x := ⟨_, rfl⟩
  rw [← hX] at EQ ⊢
  clear hs hX
  go_enter Tryd.func124, Tryd.ntmps124
  have q0 : (w.alloc (.cells #[.int .i64 1, .string X, .int .i64 0] 84)).cell? ⟨w.heap.size, 0, none⟩ = some (.int .i64 1) := by rw [cell_of_row _ _ 0 _ _ (0, 0) (heap_alloc_new w _)]; rfl
  have q1 : (w.alloc (.cells #[.int .i64 1, .string X, .int .i64 0] 84)).cell? ⟨w.heap.size, 1, none⟩ = some (.string X) := by rw [cell_of_row _ _ 1 _ _ (0, 0) (heap_alloc_new w _)]; rfl
  have q2 : (w.alloc (.cells #[.int .i64 1, .string X, .int .i64 0] 84)).cell? ⟨w.heap.size, 2, none⟩ = some (.int .i64 0) := by rw [cell_of_row _ _ 2 _ _ (0, 0) (heap_alloc_new w _)]; rfl
  have A0 : Hid (Later w (w.alloc (.cells #[.int .i64 1, .string X, .int .i64 0] 84))) := Lib.hid ((Later.refl _).alloc _)
  go_wp2_with fail
  generalize w.alloc (.cells #[.int .i64 1, .string X, .int .i64 0] 84) = W0 at A0 q0 q1 q2 ⊢
  have Q0 := Lib.hid q0; have Q1 := Lib.hid q1; have Q2 := Lib.hid q2
  have KQ : Hid (∀ W', Later W0 W' → W'.cell? ⟨w.heap.size, 0, none⟩ = some (.int .i64 1) ∧ W'.cell? ⟨w.heap.size, 1, none⟩ = some (.string X) ∧ W'.cell? ⟨w.heap.size, 2, none⟩ = some (.int .i64 0)) := Lib.hid (fun W' h => ⟨by rw [h.cell (p := ⟨w.heap.size, 0, none⟩) (cell_lt Q0.out)]; exact Q0.out, by rw [h.cell (p := ⟨w.heap.size, 1, none⟩) (cell_lt Q0.out)]; exact Q1.out, by rw [h.cell (p := ⟨w.heap.size, 2, none⟩) (cell_lt Q0.out)]; exact Q2.out⟩)
  clear q0 q1 q2 Q0 Q1 Q2
  have HS := Lib.hid (HS.out.later A0.out)
  go_loopw [8] (fun i wr => ∃ k : Nat, k ≤ n ∧ i = .int .i64 k ∧ Later W0 wr ∧ Hid (∀ j, j < k → eqT L x j = false)) (fun i _ => n - (intOf i).toNat)
  case atStart => exact ⟨0, by omega, rfl, Later.refl _, Lib.hid (by intro j h; omega)⟩
  case round =>
    obtain ⟨k, hk, rfl, hb, HI⟩ := hrel
    have B3 := Lib.hid hb
    obtain ⟨q0, q1, q2⟩ := KQ.out _ hb
    by_cases hlt : k < n
    · obtain ⟨b, off, rfl, c0, c1, c2⟩ := (HS.out.later hb).2.2.1 k hlt
      clear hb
      have EK := EQ.out (rsx L k)
      have HEK := Lib.hid (HET.out k)
      have HH := Lib.hid (RH.out k (by rw [HL.out]; exact hlt))
      obtain ⟨y, hy⟩ : ∃ y, y = tx (rsx L k) := ⟨_, rfl⟩
      rw [← hy] at c1 EK
      obtain ⟨ys, hys⟩ : ∃ ys, ys = rsx L k := ⟨_, rfl⟩
      rw [← hys] at EK HEK
      generalize rkx L k = kd at c0 HEK
      generalize rnx L k = nb at c2 HEK
      have HKX : Hid (eqT L x k = false → ∀ j, j < k + 1 → eqT L x j = false) := Lib.hid (fun h j hj => by
        rcases Nat.lt_or_ge j k with h1 | h1
        · exact HI.out j h1
        · obtain rfl : j = k := by omega
          exact h)
      have HG : Hid (((1 : Int) == kd && (X.toList == y.toList && (0 : Int) == nb)) = eqT L x k) := Lib.hid (by
        rw [HEK.out, EK]
        have e1 : ((1 : Int) == kd) = decide (kd = 1) := by by_cases h : kd = 1 <;> simp [h]; exact fun e => h e.symm
        have e2 : decide (x = ys) = decide (ys = x) := decide_eq_decide.2 ⟨Eq.symm, Eq.symm⟩
        have e3 : ((0 : Int) == nb) = decide (nb = 0) := by by_cases h : nb = 0 <;> simp [h]; exact fun e => h e.symm
        rw [e1, e2, e3])
      have hev : ∀ W, (Op.equalIn 10000 84 (.agg #[.int .i64 1, .string X, .int .i64 0]) (.agg #[.int .i64 kd, .string y, .int .i64 nb])).run Tryd.prog W = .ok (eqT L x k) W := fun W => by rw [heq, HG.out]
      clear hy hys EK HEK heq HG
      generalize eqT L x k = eb at hev HH HKX
      cases eb
      · have HK2 := Lib.hid (HKX.out rfl)
        go_wp2_with fail
        go_quiet (fail)
        all_goals
          go_wp2
          go_roundw
          case rel => exact ⟨k + 1, by omega, by go_num, B3.out.drewN _, HK2⟩
          case measure => simp [intOf]; omega
      · have HR := Lib.hid (HH.out rfl)
        have hd : decide ((0 : Int) ≤ (k : Int)) = true := decide_eq_true (by omega)
        have HD := Lib.hid hd
        clear hd
        go_wp2_with fail
        go_quiet (fail)
        all_goals
          go_wp2
          go_ret
          exact ⟨_, rfl, by rw [HR.out]; exact HD.out, A0.out.trans (B3.out.drewN _)⟩
    · obtain rfl : k = n := by omega
      have HR := Lib.hid (RM.out (by rw [HL.out]; exact HI.out))
      clear hb heq
      go_wp2_with fail
      all_goals
        go_ret
        exact ⟨-1, rfl, by rw [HR.out]; rfl, A0.out.trans B3.out⟩
theorem i_ContainsR (a : Option Addr) (n cap : Nat) (L : List Trm) (x : List UInt8) (w : World) (hs : Trs w a n L) :
    Calls Tryd.prog 102 #[.slice a n cap, .agg #[.int .i64 1, .string (tx x), .int .i64 0]] w fun e w' => e = .returned (.bool (ctV L x)) ∧ Later w w' := by
  have IX := Lib.hid (fun W (h : Later w W) => i_IndexR a n cap L x W (hs.later h))
  obtain ⟨X, hX⟩ : ∃ X, X = tx x := ⟨_, rfl⟩
  rw [← hX] at IX ⊢
  generalize ctV L x = V at IX ⊢
  clear hs hX
  have q0 : (w.alloc (.cells #[.int .i64 1, .string X, .int .i64 0] 84)).cell? ⟨w.heap.size, 0, none⟩ = some (.int .i64 1) := by rw [cell_of_row _ _ 0 _ _ (0, 0) (heap_alloc_new w _)]; rfl
  have q1 : (w.alloc (.cells #[.int .i64 1, .string X, .int .i64 0] 84)).cell? ⟨w.heap.size, 1, none⟩ = some (.string X) := by rw [cell_of_row _ _ 1 _ _ (0, 0) (heap_alloc_new w _)]; rfl
  have q2 : (w.alloc (.cells #[.int .i64 1, .string X, .int .i64 0] 84)).cell? ⟨w.heap.size, 2, none⟩ = some (.int .i64 0) := by rw [cell_of_row _ _ 2 _ _ (0, 0) (heap_alloc_new w _)]; rfl
  have A0 : Hid (Later w (w.alloc (.cells #[.int .i64 1, .string X, .int .i64 0] 84))) := Lib.hid ((Later.refl _).alloc _)
  go_enter Tryd.func102, Tryd.ntmps102
  go_wp2_with fail
  refine (IX.out _ A0.out).mono ?_
  rintro e w1 ⟨r, rfl, hr, hb⟩
  have B1 := Lib.hid (Later.trans A0.out hb)
  have HR := Lib.hid hr
  clear hb q0 q1 q2 hr
  go_wp2_with fail
  all_goals
    go_ret
    exact ⟨by rw [← HR.out]; rfl, B1.out⟩
theorem useS (M : List Lne) (x : List UInt8) (k : Nat) : usL M x (k + 1) = if usB (lrx M k) x = true then usL M x k ++ [(k : Int)] else usL M x k := rfl
def usW (p : Prg) (x : List UInt8) : List Int := if wrtB p = true then useV p.lns x else []
def blU (p : Prg) : Int := if wrtB p = true then 0 else 1
/-- a list of numbers of the call's own and a number, handed back -/
def RetO (w : World) (L : List Int) (E : Int) (e : Ending) (w' : World) : Prop := ∃ v, e = .returned (.tuple #[v, .int .i64 E]) ∧ Own w' w.heap.size v L ∧ Later w w'
theorem Own.laterU {w w' : World} {base : Nat} {v : Value} {l : List Int} (h : Own w base v l) (k : Later w w') : Own w' base v l := by
  refine h.kept (row := none) ⟨k.os, k.tape, k.output, k.size, fun i hi _ => k.block i hi⟩ (fun _ e => by cases e)
theorem Own.monoU {w : World} {base base' : Nat} {v : Value} {l : List Int} (h : Own w base v l) (hb : base' ≤ base) : Own w base' v l := by
  refine ⟨⟨h.1.1, ?_⟩, h.2⟩
  rcases h.1.2 with h0 | ⟨g, cap, cur, e, hg, r⟩
  · exact .inl h0
  · exact .inr ⟨g, cap, cur, e, by omega, r⟩
theorem own_noneU (w : World) (base : Nat) : Own w base (.slice none 0 0) [] := ⟨⟨rfl, .inl ⟨rfl, rfl⟩⟩, fun x hx => by simp at hx⟩
/-- a list of numbers of the call's own, handed back -/
def RetL (w : World) (L : List Int) (e : Ending) (w' : World) : Prop := ∃ v, e = .returned v ∧ Own w' w.heap.size v L ∧ Later w w'
theorem i_linesUsing (v : Value) (p : Prg) (x : List UInt8) (w : World) (hp : PgV w v p) (hw : wrtB p = true) : Calls Tryd.prog 60 #[v, .string (tx x)] w (RetL w (useV p.lns x)) := by
  obtain ⟨a1, c1, a2, c2, a3, c3, a4, c4, rfl, h1, h2, h3, h4, h5, h6⟩ := hp
  have P4 := Lib.hid h4
  have HU : Hid (∀ k, usL p.lns x (k + 1) = if usB (lrx p.lns k) x = true then usL p.lns x k ++ [(k : Int)] else usL p.lns x k) := Lib.hid (useS p.lns x)
  have HF : Hid (useV p.lns x = usL p.lns x p.lns.length) := Lib.hid rfl
  have HLN : Hid (∀ k, (usL p.lns x k).length ≤ k) := Lib.hid (usL_len p.lns x)
  have HCT : Hid (∀ j, j < p.lns.length → ctV (lrx p.lns j) x = usB (lrx p.lns j) x) := Lib.hid (fun j hj => ctV_us _ x ((wb_of p hw).2.2.2.2.2.2 j hj))
  have IC := Lib.hid (fun a n cap L W h => i_ContainsR a n cap L x W h)
  have hl : p.lns.length ≤ 40 := (wb_of p hw).2.2.2.2.2.1
  clear h1 h2 h3 h4 h5 h6 hw
  obtain ⟨X, hX⟩ : ∃ X, X = tx x := ⟨_, rfl⟩
  rw [← hX] at IC ⊢
  obtain ⟨s0, hs0⟩ : ∃ q, q = tx p.nm := ⟨_, rfl⟩
  obtain ⟨s4, hs4⟩ : ∃ q, q = tx p.grd := ⟨_, rfl⟩
  obtain ⟨n1, hn1⟩ : ∃ q, q = p.ins.length := ⟨_, rfl⟩
  obtain ⟨n2, hn2⟩ : ∃ q, q = p.vrs.length := ⟨_, rfl⟩
  obtain ⟨n3, hn3⟩ : ∃ q, q = p.outs.length := ⟨_, rfl⟩
  obtain ⟨n4, hn4⟩ : ∃ q, q = p.lns.length := ⟨_, rfl⟩
  simp only [← hs0, ← hs4, ← hn1, ← hn2, ← hn3, ← hn4] at P4 HU HF HCT hl ⊢
  generalize useV p.lns x = UV at HF ⊢
  generalize p.lns = M at *
  clear hs0 hs4 hn1 hn2 hn3 hn4 hX
  have q5 : (w.alloc (.cells #[.string s0, .slice a1 n1 c1, .slice a2 n2 c2, .slice a3 n3 c3, .string s4, .slice a4 n4 c4] 27)).cell? ⟨w.heap.size, 5, none⟩ = some (.slice a4 n4 c4) := by rw [cell_of_row _ _ 5 _ _ (0, 0) (heap_alloc_new w _)]; rfl
  have A0 : Hid (Later w (w.alloc (.cells #[.string s0, .slice a1 n1 c1, .slice a2 n2 c2, .slice a3 n3 c3, .string s4, .slice a4 n4 c4] 27))) := Lib.hid ((Later.refl _).alloc _)
  go_enter Tryd.func60, Tryd.ntmps60
  go_wp2_with fail
  generalize (w.alloc (.cells #[.string s0, .slice a1 n1 c1, .slice a2 n2 c2, .slice a3 n3 c3, .string s4, .slice a4 n4 c4] 27)) = W0 at A0 q5 ⊢
  clear q5
  go_loopw [5, 11] (fun s i wr => ∃ k : Nat, k ≤ n4 ∧ i = .int .i64 k ∧ Own wr w.heap.size s (usL M x k) ∧ Later w wr) (fun _ i _ => n4 - (intOf i).toNat)
  case atStart => exact ⟨0, by omega, rfl, own_noneU _ _, A0.out⟩
  case round =>
    obtain ⟨k, hk, rfl, ho, hb⟩ := hrel
    have B3 := Lib.hid hb
    have O3 := Lib.hid ho
    clear ho
    by_cases hlt : k < n4
    · obtain ⟨b, off, ta, tc, rfl, c00, c01, c2⟩ := P4.out.2.2.1 k hlt
      have c0 : wr.cell? ⟨b, off + k * 2, none⟩ = some (.string (tx (ltx M k))) := by rw [hb.cell (p := ⟨b, off + k * 2, none⟩) (cell_lt c00)]; exact c00
      have c1 : wr.cell? ⟨b, off + k * 2 + 1, none⟩ = some (.slice ta (lrx M k).length tc) := by rw [hb.cell (p := ⟨b, off + k * 2 + 1, none⟩) (cell_lt c01)]; exact c01
      have HUK := Lib.hid (HU.out k)
      have HCK := HCT.out k hlt
      have hlk := HLN.out k
      have HS := Lib.hid c2
      have CK := Lib.hid (fun W h => IC.out ta (lrx M k).length tc (lrx M k) W h)
      generalize ltx M k = yy at c0
      obtain ⟨Y, hY⟩ : ∃ Y, Y = tx yy := ⟨_, rfl⟩
      rw [← hY] at c0
      rw [HCK] at CK
      generalize usB (lrx M k) x = ub at CK HUK
      obtain ⟨q, hq⟩ : ∃ q, q = (lrx M k).length := ⟨_, rfl⟩
      rw [← hq] at c1 CK HS
      clear c00 c01 c2 hb hY hq HCK
      cases ub
      · have HE3 := Lib.hid (show usL M x (k + 1) = usL M x k from HUK.out)
        go_wp2_with (go_at_call 102; refine (CK.out _ (HS.out.later (B3.out.trans (by repeat (first | (with_reducible exact Later.refl _) | (with_reducible exact Hid.out (by assumption)) | (with_reducible refine Later.alloc ?_ _) | (with_reducible refine Later.setCell ?_ (by simp; omega) _) | (with_reducible refine Later.setCell ?_ (by simp) _) | (with_reducible refine Later.drewN ?_ _) | (with_reducible refine Later.drew ?_) | (with_reducible refine Later.trans ?_ (Hid.out (by assumption)))))))).mono ?_; rintro e w4 ⟨rfl, hb⟩; have H4 := Lib.hid hb; clear hb)
        go_roundw
        case rel => exact ⟨k + 1, by omega, by go_num, by rw [HE3.out]; exact O3.out.laterU (by repeat (first | (with_reducible exact Later.refl _) | (with_reducible exact Hid.out (by assumption)) | (with_reducible refine Later.alloc ?_ _) | (with_reducible refine Later.setCell ?_ (by simp; omega) _) | (with_reducible refine Later.setCell ?_ (by simp) _) | (with_reducible refine Later.drewN ?_ _) | (with_reducible refine Later.drew ?_) | (with_reducible refine Later.trans ?_ (Hid.out (by assumption))))), B3.out.trans (by repeat (first | (with_reducible exact Later.refl _) | (with_reducible exact Hid.out (by assumption)) | (with_reducible refine Later.alloc ?_ _) | (with_reducible refine Later.setCell ?_ (by simp; omega) _) | (with_reducible refine Later.setCell ?_ (by simp) _) | (with_reducible refine Later.drewN ?_ _) | (with_reducible refine Later.drew ?_) | (with_reducible refine Later.trans ?_ (Hid.out (by assumption)))))⟩
        case measure => simp [intOf]; omega
      · have HE3 := Lib.hid (show usL M x (k + 1) = usL M x k ++ [(k : Int)] from HUK.out)
        go_wp2_with (first
          | (go_at_call 102; refine (CK.out _ (HS.out.later (B3.out.trans (by repeat (first | (with_reducible exact Later.refl _) | (with_reducible exact Hid.out (by assumption)) | (with_reducible refine Later.alloc ?_ _) | (with_reducible refine Later.setCell ?_ (by simp; omega) _) | (with_reducible refine Later.setCell ?_ (by simp) _) | (with_reducible refine Later.drewN ?_ _) | (with_reducible refine Later.drew ?_) | (with_reducible refine Later.trans ?_ (Hid.out (by assumption)))))))).mono ?_; rintro e w4 ⟨rfl, hb⟩; have H4 := Lib.hid hb; clear hb)
          | (at_builtin; go_must (refine app1 rfl _ _ rfl w.heap.size _ _ _ (usL M x k) (k : Int) (O3.out.laterU (by repeat (first | (with_reducible exact Later.refl _) | (with_reducible exact Hid.out (by assumption)) | (with_reducible refine Later.alloc ?_ _) | (with_reducible refine Later.setCell ?_ (by simp; omega) _) | (with_reducible refine Later.setCell ?_ (by simp) _) | (with_reducible refine Later.drewN ?_ _) | (with_reducible refine Later.drew ?_) | (with_reducible refine Later.trans ?_ (Hid.out (by assumption)))))) rfl (by first | rfl | (simp only [World.heap_drewN, World.size_alloc]; rfl)) ⟨by omega, by omega⟩ (by omega) (Later.size (B3.out.trans (by repeat (first | (with_reducible exact Later.refl _) | (with_reducible exact Hid.out (by assumption)) | (with_reducible refine Later.alloc ?_ _) | (with_reducible refine Later.setCell ?_ (by simp; omega) _) | (with_reducible refine Later.setCell ?_ (by simp) _) | (with_reducible refine Later.drewN ?_ _) | (with_reducible refine Later.drew ?_) | (with_reducible refine Later.trans ?_ (Hid.out (by assumption))))))) ?_; intro v6 w6 ho hgr)))
        have O6 := Lib.hid ho
        rw [← HE3.out] at O6
        have B6 : Hid (Later w w6) := Lib.hid (Below.grown (show Later w _ from B3.out.trans (by repeat (first | (with_reducible exact Later.refl _) | (with_reducible exact Hid.out (by assumption)) | (with_reducible refine Later.alloc ?_ _) | (with_reducible refine Later.setCell ?_ (by simp; omega) _) | (with_reducible refine Later.setCell ?_ (by simp) _) | (with_reducible refine Later.drewN ?_ _) | (with_reducible refine Later.drew ?_) | (with_reducible refine Later.trans ?_ (Hid.out (by assumption)))))) hgr (Later.size (B3.out.trans (by repeat (first | (with_reducible exact Later.refl _) | (with_reducible exact Hid.out (by assumption)) | (with_reducible refine Later.alloc ?_ _) | (with_reducible refine Later.setCell ?_ (by simp; omega) _) | (with_reducible refine Later.setCell ?_ (by simp) _) | (with_reducible refine Later.drewN ?_ _) | (with_reducible refine Later.drew ?_) | (with_reducible refine Later.trans ?_ (Hid.out (by assumption))))))) (fun j hj => (O3.out.lt j hj).1))
        clear ho hgr
        go_roundw
        case rel => exact ⟨k + 1, by omega, by go_num, O6.out, B6.out⟩
        case measure => simp [intOf]; omega
    · obtain rfl : k = n4 := by omega
      clear hb
      go_wp2_with fail
      go_ret
      exact ⟨_, rfl, by rw [HF.out]; exact O3.out, B3.out⟩
theorem i_UsesOf (v : Value) (p : Prg) (x : List UInt8) (w : World) (hp : PgV w v p) (ho : Ops w) (hl : p.lns.length ≤ 1048576) : Calls Tryd.prog 23 #[v, .string (tx x)] w (RetO w (usW p x) (blU p)) := by
  have IW := Lib.hid (fun W (h : Later w W) => i_IsWritten v p W (hp.later h) (ho.later h) (by omega))
  have LU := Lib.hid (fun W (h : Later w W) (hw : wrtB p = true) => i_linesUsing v p x W (hp.later h) hw)
  have HV : Hid (usW p x = if wrtB p = true then useV p.lns x else []) := Lib.hid rfl
  have HE : Hid (blU p = if wrtB p = true then 0 else 1) := Lib.hid rfl
  obtain ⟨a1, c1, a2, c2, a3, c3, a4, c4, rfl, h1, h2, h3, h4, h5, h6⟩ := hp
  clear h1 h2 h3 h4 h5 h6 hl ho
  obtain ⟨X, hX⟩ : ∃ X, X = tx x := ⟨_, rfl⟩
  rw [← hX] at LU ⊢
  generalize usW p x = UW at HV ⊢
  generalize blU p = E at HE ⊢
  generalize wrtB p = b at IW LU HV HE
  generalize useV p.lns x = UV at LU HV
  obtain ⟨s0, hs0⟩ : ∃ q, q = tx p.nm := ⟨_, rfl⟩
  obtain ⟨s4, hs4⟩ : ∃ q, q = tx p.grd := ⟨_, rfl⟩
  obtain ⟨n1, hn1⟩ : ∃ q, q = p.ins.length := ⟨_, rfl⟩
  obtain ⟨n2, hn2⟩ : ∃ q, q = p.vrs.length := ⟨_, rfl⟩
  obtain ⟨n3, hn3⟩ : ∃ q, q = p.outs.length := ⟨_, rfl⟩
  obtain ⟨n4, hn4⟩ : ∃ q, q = p.lns.length := ⟨_, rfl⟩
  simp only [← hs0, ← hs4, ← hn1, ← hn2, ← hn3, ← hn4] at IW LU ⊢
  clear hs0 hs4 hn1 hn2 hn3 hn4 hX
  have q0 : (w.alloc (.cells #[.string s0, .slice a1 n1 c1, .slice a2 n2 c2, .slice a3 n3 c3, .string s4, .slice a4 n4 c4] 27)).cell? ⟨w.heap.size, 0, none⟩ = some (.string s0) := by rw [cell_of_row _ _ 0 _ _ (0, 0) (heap_alloc_new w _)]; rfl
  have q1 : (w.alloc (.cells #[.string s0, .slice a1 n1 c1, .slice a2 n2 c2, .slice a3 n3 c3, .string s4, .slice a4 n4 c4] 27)).cell? ⟨w.heap.size, 1, none⟩ = some (.slice a1 n1 c1) := by rw [cell_of_row _ _ 1 _ _ (0, 0) (heap_alloc_new w _)]; rfl
  have q2 : (w.alloc (.cells #[.string s0, .slice a1 n1 c1, .slice a2 n2 c2, .slice a3 n3 c3, .string s4, .slice a4 n4 c4] 27)).cell? ⟨w.heap.size, 2, none⟩ = some (.slice a2 n2 c2) := by rw [cell_of_row _ _ 2 _ _ (0, 0) (heap_alloc_new w _)]; rfl
  have q3 : (w.alloc (.cells #[.string s0, .slice a1 n1 c1, .slice a2 n2 c2, .slice a3 n3 c3, .string s4, .slice a4 n4 c4] 27)).cell? ⟨w.heap.size, 3, none⟩ = some (.slice a3 n3 c3) := by rw [cell_of_row _ _ 3 _ _ (0, 0) (heap_alloc_new w _)]; rfl
  have q4 : (w.alloc (.cells #[.string s0, .slice a1 n1 c1, .slice a2 n2 c2, .slice a3 n3 c3, .string s4, .slice a4 n4 c4] 27)).cell? ⟨w.heap.size, 4, none⟩ = some (.string s4) := by rw [cell_of_row _ _ 4 _ _ (0, 0) (heap_alloc_new w _)]; rfl
  have q5 : (w.alloc (.cells #[.string s0, .slice a1 n1 c1, .slice a2 n2 c2, .slice a3 n3 c3, .string s4, .slice a4 n4 c4] 27)).cell? ⟨w.heap.size, 5, none⟩ = some (.slice a4 n4 c4) := by rw [cell_of_row _ _ 5 _ _ (0, 0) (heap_alloc_new w _)]; rfl
  have hW0 : w.heap.size < (w.alloc (.cells #[.string s0, .slice a1 n1 c1, .slice a2 n2 c2, .slice a3 n3 c3, .string s4, .slice a4 n4 c4] 27)).heap.size := by rw [World.size_alloc]; exact Nat.lt_succ_self _
  have C0 : Hid (∀ W', Later (w.alloc (.cells #[.string s0, .slice a1 n1 c1, .slice a2 n2 c2, .slice a3 n3 c3, .string s4, .slice a4 n4 c4] 27)) W' → W'.cell? ⟨w.heap.size, 0, none⟩ = some (.string s0) ∧ W'.cell? ⟨w.heap.size, 1, none⟩ = some (.slice a1 n1 c1) ∧ W'.cell? ⟨w.heap.size, 2, none⟩ = some (.slice a2 n2 c2) ∧ W'.cell? ⟨w.heap.size, 3, none⟩ = some (.slice a3 n3 c3) ∧ W'.cell? ⟨w.heap.size, 4, none⟩ = some (.string s4) ∧ W'.cell? ⟨w.heap.size, 5, none⟩ = some (.slice a4 n4 c4)) := Lib.hid (fun W' q => ⟨by rw [q.cell (p := ⟨w.heap.size, 0, none⟩) hW0]; exact q0, by rw [q.cell (p := ⟨w.heap.size, 1, none⟩) hW0]; exact q1, by rw [q.cell (p := ⟨w.heap.size, 2, none⟩) hW0]; exact q2, by rw [q.cell (p := ⟨w.heap.size, 3, none⟩) hW0]; exact q3, by rw [q.cell (p := ⟨w.heap.size, 4, none⟩) hW0]; exact q4, by rw [q.cell (p := ⟨w.heap.size, 5, none⟩) hW0]; exact q5⟩)
  have A0 : Hid (Later w (w.alloc (.cells #[.string s0, .slice a1 n1 c1, .slice a2 n2 c2, .slice a3 n3 c3, .string s4, .slice a4 n4 c4] 27))) := Lib.hid ((Later.refl _).alloc _)
  clear hW0
  cases b
  · obtain rfl : UW = [] := HV.out
    obtain rfl : E = 1 := HE.out
    go_enter Tryd.func23, Tryd.ntmps23
    go_wp2_with fail
    generalize (w.alloc (.cells #[.string s0, .slice a1 n1 c1, .slice a2 n2 c2, .slice a3 n3 c3, .string s4, .slice a4 n4 c4] 27)) = W0 at C0 A0 q0 q1 q2 q3 q4 q5 ⊢
    refine (IW.out _ A0.out).mono ?_
    rintro e w1 ⟨rfl, hb⟩
    have B1 := Lib.hid (Later.trans A0.out hb)
    clear hb q0 q1 q2 q3 q4 q5
    go_wp2_with fail
    all_goals
      refine bodyPost_ret (v := .tuple #[.slice none 0 0, .int .i64 1]) (by simp [results, Tryd.results23, go_sem, *]) rfl ⟨_, rfl, own_noneU _ _, B1.out⟩
  · obtain rfl : UW = UV := HV.out
    obtain rfl : E = 0 := HE.out
    go_enter Tryd.func23, Tryd.ntmps23
    go_wp2_with fail
    generalize (w.alloc (.cells #[.string s0, .slice a1 n1 c1, .slice a2 n2 c2, .slice a3 n3 c3, .string s4, .slice a4 n4 c4] 27)) = W0 at C0 A0 q0 q1 q2 q3 q4 q5 ⊢
    refine (IW.out _ A0.out).mono ?_
    rintro e w1 ⟨rfl, hb⟩
    have B1 := Lib.hid (Later.trans A0.out hb)
    clear q0 q1 q2 q3 q4 q5
    obtain ⟨q0, q1, q2, q3, q4, q5⟩ := C0.out _ hb
    clear hb
    go_wp2_with fail
    refine (LU.out _ B1.out (by first | rfl | trivial)).mono ?_
    rintro e w2 ⟨u, rfl, ho, hb⟩
    have B2 := Lib.hid (Later.trans B1.out hb)
    have O2 := Lib.hid (ho.monoU B1.out.size)
    clear hb ho
    go_wp2_with fail
    all_goals
      refine bodyPost_ret (v := .tuple #[u, .int .i64 0]) (by simp [results, Tryd.results23, go_sem, *]) rfl ⟨_, rfl, O2.out, B2.out⟩
theorem s_Uses (a : Option Addr) (n cap : Nat) (L : List Trm) (x : List UInt8) (w : World) (hs : Trs w a n L) :
    Calls Tryd.prog 67 #[.slice a n cap, .string (tx x)] w fun e w' => e = .returned (.bool (usB L x)) ∧ w = w' := by
  have HS := Lib.hid hs
  have HL := Lib.hid hs.1
  have hn := hs.2.1
  have EQ := Lib.hid (fun y => eqx y x)
  have RH := Lib.hid (fun j h1 h2 h3 => usB_hit L x j h1 h2 h3)
  have RM := Lib.hid (fun h => usB_miss L x h)
  generalize usB L x = V at RH RM ⊢
  obtain ⟨X, hX⟩ : ∃ X, X = tx x := ⟨_, rfl⟩
  rw [← hX] at EQ ⊢
  clear hs hX
  go_enter Tryd.func67, Tryd.ntmps67
  go_wp2_with fail
  go_loop [5] (fun i => ∃ k : Nat, k ≤ n ∧ i = .int .i64 k ∧ Hid (∀ j, j < k → ¬(rkx L j = 1 ∧ rsx L j = x))) (fun i => n - (intOf i).toNat)
  case atStart => exact ⟨0, by omega, rfl, Lib.hid (by intro j h; omega)⟩
  case round =>
    obtain ⟨k, hk, rfl, HI⟩ := hrel
    by_cases hlt : k < n
    · obtain ⟨b, off, rfl, c0, c1, c2⟩ := HS.out.2.2.1 k hlt
      have EK := EQ.out (rsx L k)
      have HH := Lib.hid (RH.out k (by rw [HL.out]; exact hlt))
      have HKX : Hid (¬(rkx L k = 1 ∧ rsx L k = x) → ∀ j, j < k + 1 → ¬(rkx L j = 1 ∧ rsx L j = x)) := Lib.hid (fun h j hj => by
        rcases Nat.lt_or_ge j k with h1 | h1
        · exact HI.out j h1
        · obtain rfl : j = k := by omega
          exact h)
      obtain ⟨y, hy⟩ : ∃ y, y = tx (rsx L k) := ⟨_, rfl⟩
      rw [← hy] at c1 EK
      generalize rsx L k = ys at EK HH HKX
      generalize rkx L k = kd at c0 HH HKX
      clear hy
      by_cases h1 : kd = 1
      · subst h1
        by_cases h2 : ys = x
        · rw [decide_eq_true h2] at EK
          have HR := Lib.hid (HH.out rfl h2)
          clear h2
          go_wp2_with fail
          all_goals
            go_ret
            exact ⟨by rw [HR.out]; rfl, rfl⟩
        · rw [decide_eq_false h2] at EK
          have HK2 := Lib.hid (HKX.out (fun h => h2 h.2))
          clear h2
          go_wp2_with fail
          go_roundw
          case rel => exact ⟨k + 1, by omega, by go_num, HK2⟩
          case measure => simp [intOf]; omega
      · have HK2 := Lib.hid (HKX.out (fun h => h1 h.1))
        have hk1 : (kd == 1) = false := by simpa using h1
        clear h1
        go_wp2_with fail
        go_roundw
        case rel => exact ⟨k + 1, by omega, by go_num, HK2⟩
        case measure => simp [intOf]; omega
    · obtain rfl : k = n := by omega
      have HR := Lib.hid (RM.out (by rw [HL.out]; exact HI.out))
      go_wp2_with fail
      all_goals
        go_ret
        exact ⟨by rw [HR.out]; rfl, rfl⟩
theorem s_UsesOf (v : Value) (p : Prg) (x : List UInt8) (w : World) (hp : PgV w v p) (hl : p.lns.length ≤ 1048576) : Calls Tryd.prog 28 #[v, .string (tx x)] w (RetO w (usW p x) (blU p)) := by
  have IW := Lib.hid (fun W (h : Later w W) => s_IsWritten v p W (hp.later h) (by omega))
  have HV : Hid (usW p x = if wrtB p = true then useV p.lns x else []) := Lib.hid rfl
  have HE : Hid (blU p = if wrtB p = true then 0 else 1) := Lib.hid rfl
  obtain ⟨a1, c1, a2, c2, a3, c3, a4, c4, rfl, h1, h2, h3, h4, h5, h6⟩ := hp
  have P4 := Lib.hid h4
  have HU : Hid (∀ k, usL p.lns x (k + 1) = if usB (lrx p.lns k) x = true then usL p.lns x k ++ [(k : Int)] else usL p.lns x k) := Lib.hid (useS p.lns x)
  have HF : Hid (useV p.lns x = usL p.lns x p.lns.length) := Lib.hid rfl
  have HLN : Hid (∀ k, (usL p.lns x k).length ≤ k) := Lib.hid (usL_len p.lns x)
  have SU := Lib.hid (fun a n cap L W h => s_Uses a n cap L x W h)
  clear h1 h2 h3 h4 h5 h6
  obtain ⟨X, hX⟩ : ∃ X, X = tx x := ⟨_, rfl⟩
  rw [← hX] at SU ⊢
  generalize usW p x = UW at HV ⊢
  generalize blU p = E at HE ⊢
  generalize wrtB p = b at IW HV HE
  generalize useV p.lns x = UV at HF HV
  obtain ⟨s0, hs0⟩ : ∃ q, q = tx p.nm := ⟨_, rfl⟩
  obtain ⟨s4, hs4⟩ : ∃ q, q = tx p.grd := ⟨_, rfl⟩
  obtain ⟨n1, hn1⟩ : ∃ q, q = p.ins.length := ⟨_, rfl⟩
  obtain ⟨n2, hn2⟩ : ∃ q, q = p.vrs.length := ⟨_, rfl⟩
  obtain ⟨n3, hn3⟩ : ∃ q, q = p.outs.length := ⟨_, rfl⟩
  obtain ⟨n4, hn4⟩ : ∃ q, q = p.lns.length := ⟨_, rfl⟩
  simp only [← hs0, ← hs4, ← hn1, ← hn2, ← hn3, ← hn4] at IW P4 HU HF hl ⊢
  generalize p.lns = M at *
  clear hs0 hs4 hn1 hn2 hn3 hn4 hX
  have q0 : (w.alloc (.cells #[.string s0, .slice a1 n1 c1, .slice a2 n2 c2, .slice a3 n3 c3, .string s4, .slice a4 n4 c4] 27)).cell? ⟨w.heap.size, 0, none⟩ = some (.string s0) := by rw [cell_of_row _ _ 0 _ _ (0, 0) (heap_alloc_new w _)]; rfl
  have q1 : (w.alloc (.cells #[.string s0, .slice a1 n1 c1, .slice a2 n2 c2, .slice a3 n3 c3, .string s4, .slice a4 n4 c4] 27)).cell? ⟨w.heap.size, 1, none⟩ = some (.slice a1 n1 c1) := by rw [cell_of_row _ _ 1 _ _ (0, 0) (heap_alloc_new w _)]; rfl
  have q2 : (w.alloc (.cells #[.string s0, .slice a1 n1 c1, .slice a2 n2 c2, .slice a3 n3 c3, .string s4, .slice a4 n4 c4] 27)).cell? ⟨w.heap.size, 2, none⟩ = some (.slice a2 n2 c2) := by rw [cell_of_row _ _ 2 _ _ (0, 0) (heap_alloc_new w _)]; rfl
  have q3 : (w.alloc (.cells #[.string s0, .slice a1 n1 c1, .slice a2 n2 c2, .slice a3 n3 c3, .string s4, .slice a4 n4 c4] 27)).cell? ⟨w.heap.size, 3, none⟩ = some (.slice a3 n3 c3) := by rw [cell_of_row _ _ 3 _ _ (0, 0) (heap_alloc_new w _)]; rfl
  have q4 : (w.alloc (.cells #[.string s0, .slice a1 n1 c1, .slice a2 n2 c2, .slice a3 n3 c3, .string s4, .slice a4 n4 c4] 27)).cell? ⟨w.heap.size, 4, none⟩ = some (.string s4) := by rw [cell_of_row _ _ 4 _ _ (0, 0) (heap_alloc_new w _)]; rfl
  have q5 : (w.alloc (.cells #[.string s0, .slice a1 n1 c1, .slice a2 n2 c2, .slice a3 n3 c3, .string s4, .slice a4 n4 c4] 27)).cell? ⟨w.heap.size, 5, none⟩ = some (.slice a4 n4 c4) := by rw [cell_of_row _ _ 5 _ _ (0, 0) (heap_alloc_new w _)]; rfl
  have hW0 : w.heap.size < (w.alloc (.cells #[.string s0, .slice a1 n1 c1, .slice a2 n2 c2, .slice a3 n3 c3, .string s4, .slice a4 n4 c4] 27)).heap.size := by rw [World.size_alloc]; exact Nat.lt_succ_self _
  have C0 : Hid (∀ W', Later (w.alloc (.cells #[.string s0, .slice a1 n1 c1, .slice a2 n2 c2, .slice a3 n3 c3, .string s4, .slice a4 n4 c4] 27)) W' → W'.cell? ⟨w.heap.size, 0, none⟩ = some (.string s0) ∧ W'.cell? ⟨w.heap.size, 1, none⟩ = some (.slice a1 n1 c1) ∧ W'.cell? ⟨w.heap.size, 2, none⟩ = some (.slice a2 n2 c2) ∧ W'.cell? ⟨w.heap.size, 3, none⟩ = some (.slice a3 n3 c3) ∧ W'.cell? ⟨w.heap.size, 4, none⟩ = some (.string s4) ∧ W'.cell? ⟨w.heap.size, 5, none⟩ = some (.slice a4 n4 c4)) := Lib.hid (fun W' q => ⟨by rw [q.cell (p := ⟨w.heap.size, 0, none⟩) hW0]; exact q0, by rw [q.cell (p := ⟨w.heap.size, 1, none⟩) hW0]; exact q1, by rw [q.cell (p := ⟨w.heap.size, 2, none⟩) hW0]; exact q2, by rw [q.cell (p := ⟨w.heap.size, 3, none⟩) hW0]; exact q3, by rw [q.cell (p := ⟨w.heap.size, 4, none⟩) hW0]; exact q4, by rw [q.cell (p := ⟨w.heap.size, 5, none⟩) hW0]; exact q5⟩)
  have A0 : Hid (Later w (w.alloc (.cells #[.string s0, .slice a1 n1 c1, .slice a2 n2 c2, .slice a3 n3 c3, .string s4, .slice a4 n4 c4] 27))) := Lib.hid ((Later.refl _).alloc _)
  clear hW0
  have hzW : (w.alloc (.cells #[.string s0, .slice a1 n1 c1, .slice a2 n2 c2, .slice a3 n3 c3, .string s4, .slice a4 n4 c4] 27)).heap.size = w.heap.size + 1 := World.size_alloc _ _
  cases b
  · obtain rfl : UW = [] := HV.out
    obtain rfl : E = 1 := HE.out
    clear hzW
    go_enter Tryd.func28, Tryd.ntmps28
    go_wp2_with fail
    generalize (w.alloc (.cells #[.string s0, .slice a1 n1 c1, .slice a2 n2 c2, .slice a3 n3 c3, .string s4, .slice a4 n4 c4] 27)) = W0 at C0 A0 q0 q1 q2 q3 q4 q5 ⊢
    refine (IW.out _ A0.out).mono ?_
    rintro e w1 ⟨rfl, hb⟩
    have B1 := Lib.hid (Later.trans A0.out hb)
    clear hb q0 q1 q2 q3 q4 q5
    go_wp2_with fail
    all_goals
      refine bodyPost_ret (v := .tuple #[.slice none 0 0, .int .i64 1]) (by simp [results, Tryd.results28, go_sem, *]) rfl ⟨_, rfl, own_noneU _ _, B1.out⟩
  · obtain rfl : UW = UV := HV.out
    obtain rfl : E = 0 := HE.out
    go_enter Tryd.func28, Tryd.ntmps28
    go_wp2_with fail
    generalize (w.alloc (.cells #[.string s0, .slice a1 n1 c1, .slice a2 n2 c2, .slice a3 n3 c3, .string s4, .slice a4 n4 c4] 27)) = W0 at C0 A0 hzW q0 q1 q2 q3 q4 q5 ⊢
    have HZW := Lib.hid hzW
    clear hzW
    refine (IW.out _ A0.out).mono ?_
    rintro e w1 ⟨rfl, hb⟩
    have L1 := Lib.hid (show Later W0 w1 from hb)
    clear q0 q1 q2 q3 q4 q5
    obtain ⟨q0, q1, q2, q3, q4, q5⟩ := C0.out _ hb
    clear hb
    go_wp2_with fail
    clear q0 q1 q2 q3 q4 q5
    have O0 : Hid (Own (w1.alloc (.cells #[] 2)) W0.heap.size (.slice (some ⟨w1.heap.size, 0, none⟩) 0 0) []) := Lib.hid (own_new w1 W0.heap.size L1.out.size)
    go_loopw [6, 7] (fun s i wr => ∃ k : Nat, k ≤ n4 ∧ i = .int .i64 k ∧ Own wr W0.heap.size s (usL M x k) ∧ Later W0 wr) (fun _ i _ => n4 - (intOf i).toNat)
    case atStart => exact ⟨0, by omega, rfl, O0.out, L1.out.alloc _⟩
    case round =>
      obtain ⟨k, hk, rfl, ho, hb⟩ := hrel
      have L3 := Lib.hid hb
      have O3 := Lib.hid ho
      obtain ⟨q0, q1, q2, q3, q4, q5⟩ := C0.out _ hb
      clear ho
      by_cases hlt : k < n4
      · obtain ⟨b, off, ta, tc, rfl, c0, c1, c2⟩ := (P4.out.later (A0.out.trans hb)).2.2.1 k hlt
        have HUK := Lib.hid (HU.out k)
        have hlk := HLN.out k
        have CK := Lib.hid (SU.out ta (lrx M k).length tc (lrx M k) _ c2)
        generalize usB (lrx M k) x = ub at CK HUK
        obtain ⟨q, hq⟩ : ∃ q, q = (lrx M k).length := ⟨_, rfl⟩
        rw [← hq] at c1 CK
        clear c0 c2 hb hq
        cases ub
        · have HE3 := Lib.hid (show usL M x (k + 1) = usL M x k from HUK.out)
          go_wp2_with (go_at_call 67; refine CK.out.mono ?_; rintro e w' ⟨rfl, rfl⟩)
          go_roundw
          case rel => exact ⟨k + 1, by omega, by go_num, by rw [HE3.out]; exact O3.out, L3.out⟩
          case measure => simp [intOf]; omega
        · have HE3 := Lib.hid (show usL M x (k + 1) = usL M x k ++ [(k : Int)] from HUK.out)
          go_wp2_with (first
            | (go_at_call 67; refine CK.out.mono ?_; rintro e w' ⟨rfl, rfl⟩)
            | (at_builtin; go_must (refine app1 rfl _ _ rfl W0.heap.size _ _ _ (usL M x k) (k : Int) O3.out rfl (by first | rfl | (simp only [World.heap_drewN, World.size_alloc]; rfl)) ⟨by omega, by omega⟩ (by omega) L3.out.size ?_; intro v6 w6 ho hgr)))
          have O6 := Lib.hid ho
          rw [← HE3.out] at O6
          have B6 : Hid (Later W0 w6) := Lib.hid (Below.grown L3.out hgr L3.out.size (fun j hj => (O3.out.lt j hj).1))
          clear ho hgr
          go_roundw
          case rel => exact ⟨k + 1, by omega, by go_num, O6.out, B6.out⟩
          case measure => simp [intOf]; omega
      · obtain rfl : k = n4 := by omega
        clear hb
        go_wp2_with fail
        refine bodyPost_ret (v := .tuple #[_, .int .i64 0]) (by simp [results, Tryd.results28, go_sem, *]; rfl) rfl ⟨_, rfl, (by rw [HF.out]; exact O3.out.monoU A0.out.size), A0.out.trans L3.out⟩
end Go.Proofs.YtokipobjpinhmaaDoor
namespace Go.Proofs.YtokipobjpinhmaaDoor
open Go.RowKit Go.Shelf
set_option maxHeartbeats 4000000
set_option maxRecDepth 100000
set_option linter.unusedVariables false
set_option linter.unusedSimpArgs false
theorem l_markTextB (m : Nat) (w : World) (h0 : 1 ≤ m) (h1 : m ≤ 1000000000000000) : Calls Tryd.prog 69 #[.int .i64 m] w fun e w' => e = .returned (.string (tx (mkX m))) ∧ Later w w' := by
  obtain ⟨D, hD⟩ : ∃ D, D = Lib.decDigits m := ⟨_, rfl⟩
  have HM : Hid (mkX m = 109 :: D) := Lib.hid (by rw [hD]; rfl)
  have HD := Lib.hid hD
  rw [HM.out]
  have hDl : D.length ≤ 16 := by rw [hD]; exact dec_len1 15 m (by omega)
  clear hD
  go_enter Tryd.func69, Tryd.ntmps69
  go_wp2_with fail
  go_loopw [0, 3] (fun i o wr => ∃ (j : Nat) (O : List UInt8), i = .int .i64 j ∧ o = .string (tx O) ∧ j ≤ m ∧ Hid ((if j = 0 then O else Lib.decDigits j ++ O) = D) ∧ Later w wr) (fun i _ _ => (intOf i).toNat)
  case atStart => exact ⟨m, [], rfl, rfl, by omega, Lib.hid (by rw [if_neg (by omega), List.append_nil, HD.out]), Later.refl _⟩
  case round =>
    obtain ⟨j, O, rfl, rfl, hj, HO, hb⟩ := hrel
    have B3 := Lib.hid hb
    clear hb
    have hOl : O.length ≤ 16 := by
      have h := congrArg List.length HO.out
      split at h
      · omega
      · rw [List.length_append] at h; omega
    have hz : (tx O).size ≤ 1000 := by rw [tx_size]; omega
    by_cases hj0 : j = 0
    · subst hj0
      have HE : Hid (O = D) := Lib.hid (by have := HO.out; rwa [if_pos rfl] at this)
      go_wp2_with fail
      go_ret
      rw [← HE.out]
      exact ⟨rfl, B3.out⟩
    · have hcv := conv1 (48 + (j : Int) % 10) (by omega) (by omega)
      have e2 : (j : Int).tmod 10 = (j : Int) % 10 := Int.tmod_eq_emod_of_nonneg (by omega)
      have e1 : IntKind.i64.wrap ((j : Int).tdiv 10) = ((j / 10 : Nat) : Int) := by rw [Int.tdiv_eq_ediv_of_nonneg (by omega), IntWalk.i64_in _ (by omega)]; omega
      have e3 : IntKind.i64.wrap (48 + (j : Int) % 10) = 48 + (j : Int) % 10 := IntWalk.i64_in _ (by omega)
      have e4 : IntKind.u8.wrap (48 + (j : Int) % 10) = 48 + (j : Int) % 10 := IntWalk.u8_in _ (by omega)
      have HN : Hid ((if j / 10 = 0 then UInt8.ofNat (48 + (j : Int) % 10).toNat :: O else Lib.decDigits (j / 10) ++ (UInt8.ofNat (48 + (j : Int) % 10).toNat :: O)) = D) := Lib.hid (by
        have h := HO.out
        rw [if_neg hj0] at h
        rw [← h, show (48 + (j : Int) % 10).toNat = 48 + j % 10 by omega]
        by_cases h9 : j / 10 = 0
        · rw [if_pos h9, dec_one j (by omega)]
          show _ = [dg1 j] ++ O
          rw [show j % 10 = j by omega]; rfl
        · rw [if_neg h9, dec_more j (by omega)]
          simp [dg1])
      have HNY : Hid (∀ Y, Y = [UInt8.ofNat (48 + (j : Int) % 10).toNat] → (if j / 10 = 0 then Y ++ O else Lib.decDigits (j / 10) ++ (Y ++ O)) = D) := Lib.hid (by rintro Y rfl; exact HN.out)
      obtain ⟨Y, hY⟩ : ∃ Y, Y = [UInt8.ofNat (48 + (j : Int) % 10).toNat] := ⟨_, rfl⟩
      have HN2 := Lib.hid (HNY.out Y hY)
      have hz1 : (tx Y).size = 1 := by rw [hY]; rfl
      rw [← hY] at hcv
      clear hY HN HNY
      have hlt : decide ((0 : Int) < (j : Int)) = true := by simp; omega
      have hlt2 : (0 : Int) < (j : Int) := by omega
      go_wp2_with fail
      go_roundw
      case rel => exact ⟨j / 10, _, rfl, congrArg Value.string (tx_app _ _), by omega, HN2, (by repeat (first | (with_reducible exact Later.refl _) | (with_reducible exact Hid.out (by assumption)) | (with_reducible refine Later.alloc ?_ _) | (with_reducible refine Later.setCell ?_ (by simp; omega) _) | (with_reducible refine Later.setCell ?_ (by simp) _) | (with_reducible refine Later.drewN ?_ _) | (with_reducible refine Later.drew ?_) | (with_reducible refine Later.trans ?_ (Hid.out (by assumption)))))⟩
      case measure => simp [intOf]; omega
/-- 'w' is w but for blocks of S; their cells are still there, and may still be written' -/
structure Tch (S : Nat → Prop) (w w' : World) : Prop where
  os : w'.os = w.os
  tape : w'.tape = w.tape
  output : w'.output = w.output
  size : w.heap.size ≤ w'.heap.size
  block : ∀ k, k < w.heap.size → ¬ S k → w'.heap[k]? = w.heap[k]?
  cell : ∀ b j v, w.cell? ⟨b, j, none⟩ = some v → ∃ u, w'.cell? ⟨b, j, none⟩ = some u
  wrt : ∀ b, Wrt w b → Wrt w' b
theorem Tch.refl (S : Nat → Prop) (w : World) : Tch S w w := ⟨rfl, rfl, rfl, Nat.le_refl _, fun _ _ _ => rfl, fun _ _ v h => ⟨v, h⟩, fun _ h => h⟩
theorem Tch.trans {S : Nat → Prop} {a b c : World} (h : Tch S a b) (k : Tch S b c) : Tch S a c :=
  ⟨k.os.trans h.os, k.tape.trans h.tape, k.output.trans h.output, Nat.le_trans h.size k.size, fun i hi hn => (k.block i (Nat.lt_of_lt_of_le hi h.size) hn).trans (h.block i hi hn), fun b j v hv => by obtain ⟨u, hu⟩ := h.cell b j v hv; exact k.cell b j u hu, fun b hb => k.wrt b (h.wrt b hb)⟩
theorem Tch.mono {S S' : Nat → Prop} {a b : World} (h : Tch S a b) (hs : ∀ i, S i → S' i) : Tch S' a b :=
  ⟨h.os, h.tape, h.output, h.size, fun i hi hn => h.block i hi (fun q => hn (hs i q)), h.cell, h.wrt⟩
theorem Tch.of_later {S : Nat → Prop} {a b : World} (h : Later a b) : Tch S a b :=
  ⟨h.os, h.tape, h.output, h.size, fun i hi _ => h.block i hi, fun b j v hv => ⟨v, by rw [h.cell (p := ⟨b, j, none⟩) (cell_lt hv)]; exact hv⟩, fun b hb => hb.later h⟩
theorem Tch.set {S : Nat → Prop} {a b : World} (h : Tch S a b) {g j : Nat} (hg : S g) (u : Value) (hc : ∃ v, b.cell? ⟨g, j, none⟩ = some v) : Tch S a (b.setCell ⟨g, j, none⟩ u) := by
  have q := (Below.refl 0 b).setCell (p := ⟨g, j, none⟩) (Nat.zero_le _) u
  refine h.trans ⟨q.os, q.tape, q.output, by rw [World.size_setCell]; exact Nat.le_refl _, fun i hi hn => Below.heap_setCell b ⟨g, j, none⟩ u i (fun e => hn (by rw [e]; exact hg)), fun b' j' v hv => ?_, fun b' hb => hb.set _ _⟩
  by_cases e : b' = g ∧ j' = j
  · obtain ⟨rfl, rfl⟩ := e
    obtain ⟨z, hz⟩ := hc
    exact ⟨u, World.cell?_setCell_same _ _ _ (by first | exact hz | (rw [hz]; rfl) | (simp [hz]))⟩
  · exact ⟨v, by rw [World.cell?_setCell_other _ _ _ _ (fun e2 => e (by cases e2; exact ⟨rfl, rfl⟩))]; exact hv⟩
/-- what lies in other blocks stays -/
theorem Tch.cell_far {S : Nat → Prop} {a b : World} (h : Tch S a b) {g j : Nat} {v : Value} (hg : ¬ S g) (hc : a.cell? ⟨g, j, none⟩ = some v) : b.cell? ⟨g, j, none⟩ = some v := by
  have := h.block g (cell_lt hc) hg
  unfold World.cell? at hc ⊢
  simp only [this]; exact hc
/-- 'block g may be written, and has n cells from place o on' -/
def Row (w : World) (g o n : Nat) : Prop := Wrt w g ∧ ∀ j, j < n → ∃ v, w.cell? ⟨g, o + j, none⟩ = some v
theorem Row.tch {S : Nat → Prop} {w w' : World} {g o n : Nat} (h : Row w g o n) (ht : Tch S w w') : Row w' g o n :=
  ⟨ht.wrt g h.1, fun j hj => by obtain ⟨v, hv⟩ := h.2 j hj; exact ht.cell g (o + j) v hv⟩
def MkS (g : Nat) : Nat → Prop := fun i => i = g
/-- a number of marks, handed back -/
def Mkd (S : Nat → Prop) (w : World) (c : Nat) (e : Ending) (w' : World) : Prop := e = .returned (.int .i64 (c : Int)) ∧ Tch S w w'
theorem l_markStringS' (g n c : Nat) (w : World) (hr : Row w g 0 n) (hn : n ≤ 1048576) (hc1 : 1 ≤ c) (hc2 : c ≤ 100000000000000) :
    Calls Tryd.prog 34 #[.slice (some ⟨g, 0, none⟩) n n, .int .i64 c] w (Mkd (MkS g) w (c + n)) := by
  have HR := Lib.hid hr
  have HV : Hid (∀ w', Tch (MkS g) w w' → Mkd (MkS g) w (c + n) (.returned (.int .i64 ((c : Int) + (n : Int)))) w') := Lib.hid (fun w' h => ⟨by congr 2, h⟩)
  clear hr
  go_enter Tryd.func34, Tryd.ntmps34
  go_wp2_with fail
  go_loopw [1, 5] (fun m i wr => ∃ k : Nat, k ≤ n ∧ i = .int .i64 k ∧ m = .int .i64 ((c : Int) + (k : Int)) ∧ Tch (MkS g) w wr) (fun _ i _ => n - (intOf i).toNat)
  case atStart => exact ⟨0, by omega, rfl, by simp, Tch.refl _ _⟩
  case round =>
    obtain ⟨k, hk, rfl, rfl, ht⟩ := hrel
    have HT := Lib.hid ht
    clear ht
    by_cases hlt : k < n
    · have MT := Lib.hid (fun W => l_markTextB (c + k) W (by omega) (by omega))
      obtain ⟨X, hX⟩ : ∃ X, X = tx (mkX (c + k)) := ⟨_, rfl⟩
      rw [← hX] at MT
      have em : ((c + k : Nat) : Int) = (c : Int) + (k : Int) := by omega
      rw [em] at MT
      clear hX em
      go_wp2_with fail
      refine (MT.out _).mono ?_
      rintro e w4 ⟨rfl, hb⟩
      have T4 := Lib.hid (HT.out.trans (Tch.of_later (S := MkS g) hb))
      obtain ⟨hW, hC⟩ := HR.out.tch T4.out
      obtain ⟨z, hz⟩ := hC k hlt
      rw [Nat.zero_add] at hz
      have hf := hW.2 k
      have T5 := Lib.hid (T4.out.set (g := g) (j := k) rfl (.string X) ⟨z, hz⟩)
      clear hb hW hC
      go_wp2_with fail
      go_roundw
      case rel => exact ⟨k + 1, by omega, by go_num, by first | go_num | (congr 1; omega), T5.out⟩
      case measure => simp [intOf]; omega
    · obtain rfl : k = n := by omega
      go_wp2_with fail
      go_ret
      exact HV.out _ HT.out
theorem l_markTermS0 (a : Option Addr) (cap c : Nat) (S : Nat → Prop) (w : World) (hc2 : c ≤ 100000000000000) :
    Calls Tryd.prog 44 #[.slice a 0 cap, .int .i64 c] w (Mkd S w (c + 3 * 0)) := by
  have HV : Hid (Mkd S w (c + 3 * 0) (.returned (.int .i64 (c : Int))) w) := Lib.hid ⟨by simp, Tch.refl _ _⟩
  go_enter Tryd.func44, Tryd.ntmps44
  go_wp2_with fail
  go_loop [1, 5] (fun m i => i = .int .i64 0 ∧ m = .int .i64 c) (fun _ _ => 0)
  case atStart => exact ⟨rfl, rfl⟩
  case round =>
    obtain ⟨rfl, rfl⟩ := hrel
    go_wp2_with fail
    go_ret
    exact HV.out
theorem l_markTermS' (g o n cap c : Nat) (w : World) (hr : Row w g o (n * 3)) (hn : n ≤ 1048576) (hc1 : 1 ≤ c) (hc2 : c ≤ 100000000000000) :
    Calls Tryd.prog 44 #[.slice (some ⟨g, o, none⟩) n cap, .int .i64 c] w (Mkd (MkS g) w (c + 3 * n)) := by
  have HR := Lib.hid hr
  have HV : Hid (∀ w', Tch (MkS g) w w' → Mkd (MkS g) w (c + 3 * n) (.returned (.int .i64 ((c : Int) + 3 * (n : Int)))) w') := Lib.hid (fun w' h => ⟨by congr 2, h⟩)
  clear hr
  go_enter Tryd.func44, Tryd.ntmps44
  go_wp2_with fail
  go_loopw [1, 5] (fun m i wr => ∃ k : Nat, k ≤ n ∧ i = .int .i64 k ∧ m = .int .i64 ((c : Int) + 3 * (k : Int)) ∧ Tch (MkS g) w wr) (fun _ i _ => n - (intOf i).toNat)
  case atStart => exact ⟨0, by omega, rfl, by simp, Tch.refl _ _⟩
  case round =>
    obtain ⟨k, hk, rfl, rfl, ht⟩ := hrel
    have HT := Lib.hid ht
    by_cases hlt : k < n
    · have MT := Lib.hid (fun W => l_markTextB (c + 1 + 3 * k) W (by omega) (by omega))
      obtain ⟨X, hX⟩ : ∃ X, X = tx (mkX (c + 1 + 3 * k)) := ⟨_, rfl⟩
      rw [← hX] at MT
      have em : ((c + 1 + 3 * k : Nat) : Int) = (c : Int) + 3 * (k : Int) + 1 := by omega
      rw [em] at MT
      obtain ⟨hW3, hC3⟩ := HR.out.tch ht
      obtain ⟨z, hz⟩ := hC3 (k * 3) (by omega)
      have hz' : wr.cell? ⟨g, o + k * 3, none⟩ = some z := by exact hz
      have hf := hW3.2 (o + k * 3)
      have T3 := Lib.hid (HT.out.set (g := g) (j := o + k * 3) rfl (.int .i64 ((c : Int) + 3 * (k : Int))) ⟨z, hz'⟩)
      clear hX em ht hW3 hC3 hz
      go_wp2_with fail
      refine (MT.out _).mono ?_
      rintro e w4 ⟨rfl, hb⟩
      have T4 := Lib.hid (T3.out.trans (Tch.of_later (S := MkS g) hb))
      obtain ⟨hW, hC⟩ := HR.out.tch T4.out
      obtain ⟨z1, hz1⟩ := hC (k * 3 + 1) (by omega)
      obtain ⟨z2, hz2⟩ := hC (k * 3 + 2) (by omega)
      rw [← Nat.add_assoc] at hz1 hz2
      have hf1 := hW.2 (o + k * 3 + 1)
      have hf2 := hW.2 (o + k * 3 + 2)
      have TS := (Tch.refl (MkS g) w4).set (g := g) (j := o + k * 3 + 1) rfl (.string X) ⟨z1, hz1⟩
      have T5 := Lib.hid ((T4.out.trans TS).set (g := g) (j := o + k * 3 + 2) rfl (.int .i64 ((c : Int) + 3 * (k : Int) + 1 + 1)) (TS.cell _ _ _ hz2))
      clear hb hW hC TS hz' hf
      go_wp2_with fail
      go_roundw
      case rel => exact ⟨k + 1, by omega, by go_num, by first | go_num | (congr 1; omega), T5.out⟩
      case measure => simp [intOf]; omega
    · obtain rfl : k = n := by omega
      clear ht
      go_wp2_with fail
      go_ret
      exact HV.out _ HT.out
/-- 'block g holds n lines that may be written, their terms in blocks of S other than g' -/
def Rwl (S : Nat → Prop) (w : World) (g n : Nat) : Prop :=
  Wrt w g ∧ S g ∧ ∀ j, j < n → (∃ v, w.cell? ⟨g, j * 2, none⟩ = some v) ∧ ∃ ta m tc, w.cell? ⟨g, j * 2 + 1, none⟩ = some (.slice ta m tc) ∧ m ≤ 1048576 ∧ (m = 0 ∨ ∃ tb o, ta = some ⟨tb, o, none⟩ ∧ Row w tb o (m * 3) ∧ S tb ∧ tb ≠ g)
/-- the lines' slices stay -/
def Sls (w w' : World) (g n : Nat) : Prop := ∀ j, j < n → ∀ v, w.cell? ⟨g, j * 2 + 1, none⟩ = some v → w'.cell? ⟨g, j * 2 + 1, none⟩ = some v
theorem Rwl.keep {S : Nat → Prop} {w w' : World} {g n : Nat} (h : Rwl S w g n) (ht : Tch S w w') (hs : Sls w w' g n) : Rwl S w' g n := by
  obtain ⟨h1, h2, h3⟩ := h
  refine ⟨ht.wrt g h1, h2, fun j hj => ?_⟩
  obtain ⟨⟨v, hv⟩, ta, m, tc, hc, hm, hr⟩ := h3 j hj
  refine ⟨ht.cell _ _ v hv, ta, m, tc, hs j hj _ hc, hm, ?_⟩
  rcases hr with h | ⟨tb, o, e, h4, h5⟩
  · exact .inl h
  · exact .inr ⟨tb, o, e, h4.tch ht, h5⟩
theorem Sls.refl (w : World) (g n : Nat) : Sls w w g n := fun _ _ _ h => h
theorem Sls.trans {a b c : World} {g n : Nat} (h : Sls a b g n) (k : Sls b c g n) : Sls a c g n := fun j hj v hv => k j hj v (h j hj v hv)
theorem Sls.of_later {a b : World} {g n : Nat} (h : Later a b) : Sls a b g n := fun j hj v hv => by rw [h.cell (p := ⟨g, j * 2 + 1, none⟩) (cell_lt hv)]; exact hv
theorem Sls.of_far {S : Nat → Prop} {a b : World} {g n : Nat} (h : Tch S a b) (hg : ¬ S g) : Sls a b g n := fun j hj v hv => h.cell_far hg hv
theorem Sls.set {a b : World} {g n : Nat} (h : Sls a b g n) (k : Nat) (u : Value) : Sls a (b.setCell ⟨g, k * 2, none⟩ u) g n := fun j hj v hv => by
  rw [World.cell?_setCell_other _ _ _ _ (fun e2 => by have e3 := congrArg Addr.off e2; simp at e3; omega)]; exact h j hj v hv
def MkdL (S : Nat → Prop) (w : World) (e : Ending) (w' : World) : Prop := ∃ c : Nat, e = .returned (.int .i64 (c : Int)) ∧ Tch S w w'
theorem l_markLineS' (S : Nat → Prop) (g n c : Nat) (w : World) (hr : Rwl S w g n) (hn : n ≤ 1048576) (hc1 : 1 ≤ c) (hc2 : c ≤ 100000000) :
    Calls Tryd.prog 68 #[.slice (some ⟨g, 0, none⟩) n n, .int .i64 c] w (MkdL S w) := by
  have HR := Lib.hid hr
  have HV : Hid (∀ (d : Nat) w', Tch S w w' → MkdL S w (.returned (.int .i64 (d : Int))) w') := Lib.hid (fun d w' h => ⟨d, rfl, h⟩)
  clear hr
  go_enter Tryd.func68, Tryd.ntmps68
  go_wp2_with fail
  go_loopw [1, 5] (fun m i wr => ∃ k d : Nat, k ≤ n ∧ i = .int .i64 k ∧ m = .int .i64 (d : Int) ∧ 1 ≤ d ∧ d ≤ c + k * 4000000 ∧ Tch S w wr ∧ Sls w wr g n) (fun _ i _ => n - (intOf i).toNat)
  case atStart => exact ⟨0, c, by omega, rfl, rfl, hc1, by omega, Tch.refl _ _, Sls.refl _ _ _⟩
  case round =>
    obtain ⟨k, d, hk, rfl, rfl, hd1, hd2, ht, hs⟩ := hrel
    have HT := Lib.hid ht
    have HSL := Lib.hid hs
    clear ht hs
    by_cases hlt : k < n
    · have MT := Lib.hid (fun W => l_markTextB d W (by omega) (by omega))
      obtain ⟨X, hX⟩ : ∃ X, X = tx (mkX d) := ⟨_, rfl⟩
      rw [← hX] at MT
      clear hX
      go_wp2_with fail
      refine (MT.out _).mono ?_
      rintro e w4 ⟨rfl, hb⟩
      have T4 := Lib.hid (HT.out.trans (Tch.of_later (S := S) hb))
      have SL4 := Lib.hid (HSL.out.trans (Sls.of_later hb))
      obtain ⟨hW, hSg, hC⟩ := HR.out.keep T4.out SL4.out
      obtain ⟨⟨z, hz⟩, _⟩ := hC k hlt
      have hf := hW.2 (k * 2)
      have T5 := Lib.hid (T4.out.set (g := g) (j := k * 2) hSg (.string X) ⟨z, hz⟩)
      have SL5 := Lib.hid (SL4.out.set k (.string X))
      have R5 := Lib.hid (HR.out.keep T5.out SL5.out)
      obtain ⟨_, _, hC5⟩ := R5.out
      obtain ⟨_, ta, m, tc, hc, hm, hrow⟩ := hC5 k hlt
      have ed : ((d : Int) + 1) = ((d + 1 : Nat) : Int) := by omega
      have HM : Hid (∀ W5, W5 = w4.setCell ⟨g, k * 2, none⟩ (.string X) → Calls Tryd.prog 44 #[.slice ta m tc, .int .i64 ((d : Int) + 1)] W5 fun e w' => e = .returned (.int .i64 ((d + 1 + 3 * m : Nat) : Int)) ∧ Tch S W5 w' ∧ Sls W5 w' g n) := Lib.hid (by
        rintro W5 rfl
        rw [ed]
        rcases hrow with rfl | ⟨tb, o, rfl, h4, h5, h6⟩
        · exact (l_markTermS0 ta tc (d + 1) (fun _ => False) _ (by omega)).mono fun e w' h => ⟨h.1, h.2.mono (fun i q => q.elim), Sls.of_far h.2 (fun q => q)⟩
        · exact (l_markTermS' tb o m tc (d + 1) _ h4 hm (by omega) (by omega)).mono fun e w' h => ⟨h.1, h.2.mono (fun i q => by rw [show i = tb from q]; exact h5), Sls.of_far h.2 (fun q => h6 (show g = tb from q).symm)⟩)
      have hcc : w4.cell? ⟨g, k * 2 + 1, none⟩ = some (.slice ta m tc) := by
        have := hc
        rw [World.cell?_setCell_other _ _ _ _ (fun e2 => by have e3 := congrArg Addr.off e2; simp at e3 <;> omega)] at this
        exact this
      clear hb hW hSg hC hC5 hrow hc ed
      generalize hW5 : w4.setCell ⟨g, k * 2, none⟩ (.string X) = W5 at T5 SL5 R5 HM
      have HM := Lib.hid (HM.out _ rfl)
      subst hW5
      go_wp2_with fail
      refine HM.out.mono ?_
      rintro e w6 ⟨rfl, h1, h2⟩
      have T6 := Lib.hid (T5.out.trans h1)
      have SL6 := Lib.hid (SL5.out.trans h2)
      clear h1 h2 hz hf hcc
      go_wp2_with fail
      go_roundw
      case rel => exact ⟨k + 1, d + 1 + 3 * m, by omega, by go_num, rfl, by omega, by omega, T6.out, SL6.out⟩
      case measure => simp [intOf]; omega
    · obtain rfl : k = n := by omega
      go_wp2_with fail
      go_ret
      exact HV.out _ _ HT.out
theorem Sts.row {w : World} {g n : Nat} {W : List (List UInt8)} (h : Stw w g n W) : Row w g 0 n := by
  refine ⟨h.2, fun j hj => ?_⟩
  obtain ⟨b, off, e, hc⟩ := h.1.at j hj
  cases e
  exact ⟨_, hc⟩
theorem Lnw.rwl {base : Nat} {w : World} {g n : Nat} {M : List Lne} (h : Lnw base w g n M) : Rwl (fun i => base ≤ i ∧ i < w.heap.size) w g n := by
  obtain ⟨h1, h2, h3⟩ := h
  refine ⟨h3, ⟨h2, h3.1⟩, fun j hj => ?_⟩
  obtain ⟨b, off, ta, tc, e, hc, hd, he, hf⟩ := h1.2.2.2.1 j hj
  cases e
  rw [Nat.zero_add] at hc hd
  have hlen : (lrx M j).length ≤ 1048576 := (h1.2.2.2.2 _ (lx_mem M j (by rw [h1.1]; exact hj))).2
  refine ⟨⟨_, hc⟩, ta, _, tc, hd, hlen, ?_⟩
  by_cases hz : (lrx M j).length = 0
  · exact .inl hz
  · obtain ⟨tb, o, e, _⟩ := he.2.2.1 0 (by omega)
    obtain ⟨f1, f2, f3⟩ := hf _ e
    refine .inr ⟨tb, o, e, ⟨f2, fun i hi => ?_⟩, ⟨f1, f2.1⟩, f3⟩
    obtain ⟨tb', o', e', d0, d1, d2⟩ := he.2.2.1 (i / 3) (by omega)
    rw [e] at e'
    cases e'
    rcases (show i = i / 3 * 3 ∨ i = i / 3 * 3 + 1 ∨ i = i / 3 * 3 + 2 by omega) with h | h | h
    · rw [h]; exact ⟨_, d0⟩
    · rw [h, ← Nat.add_assoc]; exact ⟨_, d1⟩
    · rw [h, ← Nat.add_assoc]; exact ⟨_, d2⟩
end Go.Proofs.YtokipobjpinhmaaDoor
namespace Go.Proofs.YtokipobjpinhmaaDoor
open Go.RowKit Go.Shelf
set_option maxHeartbeats 4000000
set_option maxRecDepth 100000
set_option linter.unusedVariables false
set_option linter.unusedSimpArgs false
theorem l_markProgram (base : Nat) (v : Value) (p : Prg) (W0 w : World) (hp : PgC base W0 v p) (hl : Later W0 w) (hs : PShort p) :
    Calls Tryd.prog 30 #[v, .int .i64 1] w (MkdL (fun i => base ≤ i ∧ i < W0.heap.size) w) := by
  obtain ⟨g1, g2, g3, g4, rfl, ⟨e1, e2, e3, f1, f2, f3⟩, h1, h2, h3, h4, _, _⟩ := hp
  have m1 := hs.2.1.1; have m2 := hs.2.2.1.1; have m3 := hs.2.2.2.1.1; have m4 := hs.2.2.2.2.2.1
  obtain ⟨S, hS⟩ : ∃ S : Nat → Prop, S = fun i => base ≤ i ∧ i < W0.heap.size := ⟨_, rfl⟩
  rw [← hS]
  have S1 : Hid (S g1) := Lib.hid (by rw [hS]; exact ⟨e1, h1.2.1⟩)
  have S2 : Hid (S g2) := Lib.hid (by rw [hS]; exact ⟨e2, h2.2.1⟩)
  have S3 : Hid (S g3) := Lib.hid (by rw [hS]; exact ⟨e3, h3.2.1⟩)
  have NW : Hid (¬ S w.heap.size) := Lib.hid (by rw [hS]; intro h; have := hl.size; have := h.2; omega)
  have R1 := Lib.hid (Sts.row (h1.later hl))
  have R2 := Lib.hid (Sts.row (h2.later hl))
  have R3 := Lib.hid (Sts.row (h3.later hl))
  have R4 : Hid (Rwl S w g4 p.lns.length) := Lib.hid (by
    rw [hS]
    exact Rwl.keep (h4.rwl) (Tch.of_later hl) (Sls.of_later hl))
  have HV : Hid (∀ (d : Nat) w', Tch S w w' → MkdL S w (.returned (.int .i64 (d : Int))) w') := Lib.hid (fun d w' h => ⟨d, rfl, h⟩)
  have G14 : g1 ≠ g4 := Nat.ne_of_lt f1
  have G24 : g2 ≠ g4 := Nat.ne_of_lt f2
  have G34 : g3 ≠ g4 := Nat.ne_of_lt f3
  clear hS h1 h2 h3 h4 e1 e2 e3 f1 f2 f3 hs hl
  obtain ⟨s0, hs0⟩ : ∃ q, q = tx p.nm := ⟨_, rfl⟩
  obtain ⟨s4, hs4⟩ : ∃ q, q = tx p.grd := ⟨_, rfl⟩
  obtain ⟨n1, hn1⟩ : ∃ q, q = p.ins.length := ⟨_, rfl⟩
  obtain ⟨n2, hn2⟩ : ∃ q, q = p.vrs.length := ⟨_, rfl⟩
  obtain ⟨n3, hn3⟩ : ∃ q, q = p.outs.length := ⟨_, rfl⟩
  obtain ⟨n4, hn4⟩ : ∃ q, q = p.lns.length := ⟨_, rfl⟩
  simp only [← hs0, ← hs4, ← hn1, ← hn2, ← hn3, ← hn4] at R1 R2 R3 R4 m1 m2 m3 m4 ⊢
  clear hs0 hs4 hn1 hn2 hn3 hn4
  have q0 : (w.alloc (.cells #[.string s0, .slice (some ⟨g1, 0, none⟩) n1 n1, .slice (some ⟨g2, 0, none⟩) n2 n2, .slice (some ⟨g3, 0, none⟩) n3 n3, .string s4, .slice (some ⟨g4, 0, none⟩) n4 n4] 27)).cell? ⟨w.heap.size, 0, none⟩ = some (.string s0) := by rw [cell_of_row _ _ 0 _ _ (0, 0) (heap_alloc_new w _)]; rfl
  have q1 : (w.alloc (.cells #[.string s0, .slice (some ⟨g1, 0, none⟩) n1 n1, .slice (some ⟨g2, 0, none⟩) n2 n2, .slice (some ⟨g3, 0, none⟩) n3 n3, .string s4, .slice (some ⟨g4, 0, none⟩) n4 n4] 27)).cell? ⟨w.heap.size, 1, none⟩ = some (.slice (some ⟨g1, 0, none⟩) n1 n1) := by rw [cell_of_row _ _ 1 _ _ (0, 0) (heap_alloc_new w _)]; rfl
  have q2 : (w.alloc (.cells #[.string s0, .slice (some ⟨g1, 0, none⟩) n1 n1, .slice (some ⟨g2, 0, none⟩) n2 n2, .slice (some ⟨g3, 0, none⟩) n3 n3, .string s4, .slice (some ⟨g4, 0, none⟩) n4 n4] 27)).cell? ⟨w.heap.size, 2, none⟩ = some (.slice (some ⟨g2, 0, none⟩) n2 n2) := by rw [cell_of_row _ _ 2 _ _ (0, 0) (heap_alloc_new w _)]; rfl
  have q3 : (w.alloc (.cells #[.string s0, .slice (some ⟨g1, 0, none⟩) n1 n1, .slice (some ⟨g2, 0, none⟩) n2 n2, .slice (some ⟨g3, 0, none⟩) n3 n3, .string s4, .slice (some ⟨g4, 0, none⟩) n4 n4] 27)).cell? ⟨w.heap.size, 3, none⟩ = some (.slice (some ⟨g3, 0, none⟩) n3 n3) := by rw [cell_of_row _ _ 3 _ _ (0, 0) (heap_alloc_new w _)]; rfl
  have q4 : (w.alloc (.cells #[.string s0, .slice (some ⟨g1, 0, none⟩) n1 n1, .slice (some ⟨g2, 0, none⟩) n2 n2, .slice (some ⟨g3, 0, none⟩) n3 n3, .string s4, .slice (some ⟨g4, 0, none⟩) n4 n4] 27)).cell? ⟨w.heap.size, 4, none⟩ = some (.string s4) := by rw [cell_of_row _ _ 4 _ _ (0, 0) (heap_alloc_new w _)]; rfl
  have q5 : (w.alloc (.cells #[.string s0, .slice (some ⟨g1, 0, none⟩) n1 n1, .slice (some ⟨g2, 0, none⟩) n2 n2, .slice (some ⟨g3, 0, none⟩) n3 n3, .string s4, .slice (some ⟨g4, 0, none⟩) n4 n4] 27)).cell? ⟨w.heap.size, 5, none⟩ = some (.slice (some ⟨g4, 0, none⟩) n4 n4) := by rw [cell_of_row _ _ 5 _ _ (0, 0) (heap_alloc_new w _)]; rfl
  have KQ : Hid (∀ W', Tch S (w.alloc (.cells #[.string s0, .slice (some ⟨g1, 0, none⟩) n1 n1, .slice (some ⟨g2, 0, none⟩) n2 n2, .slice (some ⟨g3, 0, none⟩) n3 n3, .string s4, .slice (some ⟨g4, 0, none⟩) n4 n4] 27)) W' → W'.cell? ⟨w.heap.size, 0, none⟩ = some (.string s0) ∧ W'.cell? ⟨w.heap.size, 1, none⟩ = some (.slice (some ⟨g1, 0, none⟩) n1 n1) ∧ W'.cell? ⟨w.heap.size, 2, none⟩ = some (.slice (some ⟨g2, 0, none⟩) n2 n2) ∧ W'.cell? ⟨w.heap.size, 3, none⟩ = some (.slice (some ⟨g3, 0, none⟩) n3 n3) ∧ W'.cell? ⟨w.heap.size, 4, none⟩ = some (.string s4) ∧ W'.cell? ⟨w.heap.size, 5, none⟩ = some (.slice (some ⟨g4, 0, none⟩) n4 n4)) := Lib.hid (fun W' h => ⟨h.cell_far NW.out q0, h.cell_far NW.out q1, h.cell_far NW.out q2, h.cell_far NW.out q3, h.cell_far NW.out q4, h.cell_far NW.out q5⟩)
  have T0 : Hid (Tch S w (w.alloc (.cells #[.string s0, .slice (some ⟨g1, 0, none⟩) n1 n1, .slice (some ⟨g2, 0, none⟩) n2 n2, .slice (some ⟨g3, 0, none⟩) n3 n3, .string s4, .slice (some ⟨g4, 0, none⟩) n4 n4] 27))) := Lib.hid (Tch.of_later ((Later.refl _).alloc _))
  have L0 : Hid (Sls w (w.alloc (.cells #[.string s0, .slice (some ⟨g1, 0, none⟩) n1 n1, .slice (some ⟨g2, 0, none⟩) n2 n2, .slice (some ⟨g3, 0, none⟩) n3 n3, .string s4, .slice (some ⟨g4, 0, none⟩) n4 n4] 27)) g4 n4) := Lib.hid (Sls.of_later ((Later.refl _).alloc _))
  go_enter Tryd.func30, Tryd.ntmps30
  go_wp2_with fail
  generalize (w.alloc (.cells #[.string s0, .slice (some ⟨g1, 0, none⟩) n1 n1, .slice (some ⟨g2, 0, none⟩) n2 n2, .slice (some ⟨g3, 0, none⟩) n3 n3, .string s4, .slice (some ⟨g4, 0, none⟩) n4 n4] 27)) = W1 at KQ T0 L0 q0 q1 q2 q3 q4 q5 ⊢
  refine (l_markStringS' g1 n1 1 W1 (R1.out.tch T0.out) m1 (by omega) (by omega)).mono ?_
  rintro e w2 ⟨rfl, ht⟩
  have U2 := Lib.hid (ht.mono (S' := S) (fun i h => (show i = g1 from h) ▸ S1.out))
  have L2 := Lib.hid (L0.out.trans (Sls.of_far ht (fun h : g4 = g1 => G14 h.symm)))
  clear ht q0 q1 q2 q3 q4 q5
  obtain ⟨q0, q1, q2, q3, q4, q5⟩ := KQ.out _ U2.out
  go_wp2_with fail
  refine (l_markStringS' g2 n2 (1 + n1) w2 (R2.out.tch (T0.out.trans U2.out)) m2 (by omega) (by omega)).mono ?_
  rintro e w3 ⟨rfl, ht⟩
  have U3 := Lib.hid (U2.out.trans (ht.mono (S' := S) (fun i h => (show i = g2 from h) ▸ S2.out)))
  have L3 := Lib.hid (L2.out.trans (Sls.of_far ht (fun h : g4 = g2 => G24 h.symm)))
  clear ht q0 q1 q2 q3 q4 q5
  obtain ⟨q0, q1, q2, q3, q4, q5⟩ := KQ.out _ U3.out
  go_wp2_with fail
  refine (l_markStringS' g3 n3 (1 + n1 + n2) w3 (R3.out.tch (T0.out.trans U3.out)) m3 (by omega) (by omega)).mono ?_
  rintro e w4 ⟨rfl, ht⟩
  have U4 := Lib.hid (U3.out.trans (ht.mono (S' := S) (fun i h => (show i = g3 from h) ▸ S3.out)))
  have L4 := Lib.hid (L3.out.trans (Sls.of_far ht (fun h : g4 = g3 => G34 h.symm)))
  clear ht q0 q1 q2 q3 q4 q5
  obtain ⟨q0, q1, q2, q3, q4, q5⟩ := KQ.out _ U4.out
  go_wp2_with fail
  refine (l_markLineS' S g4 n4 (1 + n1 + n2 + n3) w4 (R4.out.keep (T0.out.trans U4.out) L4.out) m4 (by omega) (by omega)).mono ?_
  rintro e w5 ⟨d, rfl, ht⟩
  have U5 := Lib.hid (T0.out.trans (U4.out.trans ht))
  clear ht q0 q1 q2 q3 q4 q5
  go_wp2_with fail
  go_ret
  exact HV.out _ _ U5.out
end Go.Proofs.YtokipobjpinhmaaDoor
namespace Go.Proofs.YtokipobjpinhmaaDoor
open Go.RowKit
set_option maxHeartbeats 2000000
set_option linter.unusedVariables false
set_option linter.unusedSimpArgs false
/-- the list l, of which k elements are marked -/
def mrk (l : List Int) (k : Nat) : List Int := (List.range l.length).map fun j => if j < k then 1 + (j : Int) else gx l j
theorem mrk_len (l : List Int) (k : Nat) : (mrk l k).length = l.length := by simp [mrk]
theorem mrk_get (l : List Int) (k j : Nat) (h : j < l.length) : (mrk l k)[j]? = some (if j < k then 1 + (j : Int) else gx l j) := by simp [mrk, h]
theorem mrk_0 (l : List Int) : mrk l 0 = l := by
  apply List.ext_getElem?
  intro j
  by_cases h : j < l.length
  · rw [mrk_get l 0 j h, if_neg (by omega), List.getElem?_eq_getElem h, gx_of l j h]
  · rw [List.getElem?_eq_none (by rw [mrk_len]; omega), List.getElem?_eq_none (by omega)]
theorem mrk_set (l : List Int) (k : Nat) (hk : k < l.length) : (mrk l k).set k (1 + (k : Int)) = mrk l (k + 1) := by
  apply List.ext_getElem?
  intro j
  by_cases h : j < l.length
  · rw [List.getElem?_set, mrk_len, mrk_get l k j h, mrk_get l (k + 1) j h]
    by_cases e : k = j
    · subst e; simp [h]
    · rw [if_neg e]
      by_cases c : j < k
      · rw [if_pos c, if_pos (by omega)]
      · rw [if_neg c, if_neg (by omega)]
  · rw [List.getElem?_eq_none (by simp [mrk]; omega), List.getElem?_eq_none (by simp [mrk]; omega)]
theorem mrk_gx (l : List Int) (k : Nat) (h : k < l.length) : gx (mrk l l.length) k = 1 + (k : Int) := by
  rw [gx_of _ _ (by rw [mrk_len]; exact h)]
  simp [mrk, h]
/-- what marking leaves -/
def Marked (w : World) (base : Nat) (v : Value) (l : List Int) (e : Ending) (w' : World) : Prop :=
  e = .returned (.int .i64 (1 + (l.length : Int))) ∧ Own w' base v (mrk l l.length) ∧ w.grownBy w' v.ownBlock
theorem mrk_in (l : List Int) (k : Nat) (hl : l.length ≤ 1000000000) (h : ∀ x ∈ l, InR x) : ∀ x ∈ mrk l k, InR x := by
  intro x hx
  obtain ⟨j, hj, rfl⟩ := List.mem_map.1 hx
  rw [List.mem_range] at hj
  by_cases c : j < k
  · simp only [if_pos c]; exact ⟨by omega, by omega⟩
  · simp only [if_neg c]; exact h _ (gx_mem l j hj)
theorem l_markInt64S (v : Value) (base : Nat) (l : List Int) (w : World) (ho : Own w base v l) (hl : l.length ≤ 1000000000) :
    Calls Tryd.prog 31 #[v, .int .i64 1] w (Marked w base v l) := by
  have HI := Lib.hid ho.2
  rcases ho.1.2 with ⟨rfl, h0⟩ | ⟨g, cap, cur, rfl, hb, hg, hnc, hcm, _⟩
  · have e : l = [] := List.length_eq_zero_iff.1 h0
    subst e
    have HO := Lib.hid ho
    clear ho h0
    go_enter Tryd.func31, Tryd.ntmps31
    go_wp2
    go_loop [1, 5] (fun m i => i = .int .i64 0 ∧ m = .int .i64 1) (fun _ _ => 0)
    case atStart => exact ⟨rfl, rfl⟩
    case round =>
      obtain ⟨rfl, rfl⟩ := hrel
      go_wp2
      go_ret
      exact ⟨rfl, HO.out, ⟨rfl, rfl, rfl, Nat.le_refl _, fun _ _ _ => rfl⟩⟩
  · have HO := Lib.hid ho.1
    obtain ⟨n, hn⟩ : ∃ n, n = l.length := ⟨_, rfl⟩
    have HN := Lib.hid hn
    have O1 : Hid (w.ownsRow base 2 1 (.slice (some ⟨g, 0, none⟩) n cap) n ((mrk l 0).map (Value.int .i64))) := Lib.hid (by rw [mrk_0, HN.out]; exact ho.1)
    have hl' : n ≤ 1000000000 := by omega
    rw [← hn]
    clear hg hnc hcm ho hb hn hl
    go_enter Tryd.func31, Tryd.ntmps31
    go_wp2
    go_loopw [1, 5] (fun m i wr => ∃ k : Nat, k ≤ n ∧ i = .int .i64 k ∧ m = .int .i64 (1 + (k : Int)) ∧ wr.ownsRow base 2 1 (.slice (some ⟨g, 0, none⟩) n cap) n ((mrk l k).map (Value.int .i64)) ∧ w.grownBy wr (some g)) (fun _ i _ => n - (intOf i).toNat)
    case atStart => exact ⟨0, by omega, rfl, rfl, O1.out, ⟨rfl, rfl, rfl, Nat.le_refl _, fun _ _ _ => rfl⟩⟩
    case round =>
      obtain ⟨k, hk, rfl, rfl, ho, hg⟩ := hrel
      have HR := Lib.hid ho; have HG := Lib.hid hg
      clear ho hg
      by_cases hlt : k < n
      · obtain ⟨z, hz⟩ : ∃ z, wr.cell? ⟨g, k, none⟩ = some (.int .i64 z) := ⟨_, by rw [HR.out.cellAt k (by omega), List.getElem?_map, mrk_get l k k (by rw [← HN.out]; exact hlt)]; rfl⟩
        have hf : wr.frozen? ⟨g, k, none⟩ = false := HR.out.frozenAt k
        have hset : Hid (((mrk l k).map (Value.int .i64)).set k (.int .i64 (1 + (k : Int))) = (mrk l (k + 1)).map (Value.int .i64)) := Lib.hid (by rw [← mrk_set l k (by rw [← HN.out]; exact hlt), List.map_set])
        go_wp2
        go_roundw
        case rel => exact ⟨k + 1, by omega, by go_num, by go_num, by rw [← hset.out]; exact (HR.out.stored k _).1, grown_trans HG.out (HR.out.stored k _).2⟩
        case measure => simp [intOf]; omega
      · obtain rfl : k = n := by omega
        go_wp2
        go_ret
        refine ⟨by rw [← HN.out] <;> rfl, ⟨?_, mrk_in l _ (by rw [← HN.out]; exact hl') HI.out⟩, HG.out⟩
        rw [mrk_len, ← HN.out]; exact HR.out
theorem l_heldInt64S (v : Value) (base : Nat) (l : List Int) (w : World) (ho : Own w base v (mrk l l.length)) (hl : l.length ≤ 1000000000) :
    Calls Tryd.prog 32 #[v, .int .i64 1] w fun e w' => e = .returned (.int .i64 (1 + (l.length : Int))) ∧ w = w' := by
  obtain ⟨a, cap, rfl, hs, _⟩ := ho.sl
  have HS := Lib.hid hs
  have HL := Lib.hid (mrk_len l l.length)
  rw [mrk_len]
  obtain ⟨n, hn⟩ : ∃ n, n = l.length := ⟨_, rfl⟩
  have HN := Lib.hid hn
  rw [← hn] at hl ⊢
  clear hs ho hn
  go_enter Tryd.func32, Tryd.ntmps32
  go_wp2
  go_loop [1, 5] (fun m i => ∃ k : Nat, k ≤ n ∧ i = .int .i64 k ∧ m = .int .i64 (1 + (k : Int))) (fun _ i => n - (intOf i).toNat)
  case atStart => exact ⟨0, by omega, rfl, rfl⟩
  case round =>
    obtain ⟨k, hk, rfl, rfl⟩ := hrel
    by_cases hlt : k < n
    · obtain ⟨b, off, rfl, hc⟩ := HS.out.at k (by rw [HL.out, ← HN.out]; exact hlt)
      rw [mrk_gx l k (by rw [← HN.out]; exact hlt)] at hc
      go_wp2
      go_round
      case rel => exact ⟨k + 1, by omega, by go_num, by go_num⟩
      case measure => simp [intOf]; omega
    · obtain rfl : k = n := by omega
      go_wp2
      go_ret
      exact ⟨rfl, rfl⟩
end Go.Proofs.YtokipobjpinhmaaDoor
namespace Go.Proofs.YtokipobjpinhmaaDoor
open Go.RowKit
set_option maxHeartbeats 2000000
set_option linter.unusedVariables false
set_option linter.unusedSimpArgs false
theorem l_eqInt64S (a b : Option Addr) (n cap m cap' : Nat) (l : List Int) (w : World) (hs : Sl w a n l) (ht : Sl w b m l) :
    Calls Tryd.prog 29 #[.slice a n cap, .slice b m cap'] w fun e w' => e = .returned (.bool true) ∧ ∃ q, w' = w.drewN q := by
  have HS := Lib.hid hs
  have HT := Lib.hid ht
  obtain rfl : n = m := by rw [← hs.1, ← ht.1]
  have hn := hs.2.1
  clear hs ht
  have e0 : ((n : Int) != (n : Int)) = false := by simp
  go_enter Tryd.func29, Tryd.ntmps29
  go_wp2
  go_loopw [5] (fun i wr => ∃ k : Nat, k ≤ n ∧ i = .int .i64 k ∧ ∃ q, wr = w.drewN q) (fun i _ => n - (intOf i).toNat)
  case atStart => exact ⟨0, by omega, rfl, 0, rfl⟩
  case round =>
    obtain ⟨k, hk, rfl, q, rfl⟩ := hrel
    by_cases hlt : k < n
    · obtain ⟨b1, o1, rfl, hc1⟩ := HS.out.at k hlt
      obtain ⟨b2, o2, rfl, hc2⟩ := HT.out.at k hlt
      go_wp2
      go_quiet (fail)
      go_wp2
      go_roundw
      case rel => exact ⟨k + 1, by omega, by go_num, by first | exact ⟨_, rfl⟩ | exact dr _ _ _⟩
      case measure => simp [intOf]; omega
    · go_wp2
      go_ret
      exact ⟨rfl, by first | exact ⟨_, rfl⟩ | exact dr _ _ _⟩
end Go.Proofs.YtokipobjpinhmaaDoor
namespace Go.Proofs.YtokipobjpinhmaaDoor
open Go.RowKit Go.Shelf
set_option maxHeartbeats 4000000
set_option maxRecDepth 100000
set_option linter.unusedVariables false
set_option linter.unusedSimpArgs false
theorem Tch.later_of {S : Nat → Prop} {w a b : World} (h : Tch S a b) (hl : Later w a) (hS : ∀ i, S i → w.heap.size ≤ i) : Later w b :=
  ⟨h.os.trans hl.os, h.tape.trans hl.tape, h.output.trans hl.output, Nat.le_trans hl.size h.size, fun i hi => (h.block i (Nat.lt_of_lt_of_le hi hl.size) (fun q => by have := hS i q; omega)).trans (hl.block i hi)⟩
theorem ownsRow_tch {w w' : World} {base : Nat} {T : TypeId} {sz : Nat} {v : Value} {n : Nat} {xs : List Value} (h : w.ownsRow base T sz v n xs) (hb : ∀ k, v.ownBlock = some k → w'.heap[k]? = w.heap[k]?) : w'.ownsRow base T sz v n xs := by
  refine ⟨h.1, ?_⟩
  rcases h.2 with h0 | ⟨g, cap, cur, rfl, h1, hg, h2⟩
  · exact .inl h0
  · exact .inr ⟨g, cap, cur, rfl, h1, (hb g rfl).trans hg, h2⟩
theorem tx_ofS (s : ByteArray) : tx s.data.toList = s := by cases s; simp [tx]
theorem Own.tchO {w w' : World} {base : Nat} {v : Value} {L : List Int} (h : Own w base v L) (hb : ∀ k, v.ownBlock = some k → w'.heap[k]? = w.heap[k]?) : Own w' base v L := ⟨ownsRow_tch h.1 hb, h.2⟩
def SlU (w : World) (a : Option Addr) (n : Nat) (L : List Int) : Prop := Sl w a n L
theorem SlU.later {w w' : World} {a : Option Addr} {n : Nat} {L : List Int} (h : SlU w a n L) (hb : Later w w') : SlU w' a n L := by
  obtain ⟨h1, h2, h3, h4⟩ := h
  refine ⟨h1, h2, fun k hk => ?_, h4⟩
  obtain ⟨b, off, e, hc⟩ := h3 k hk
  exact ⟨b, off, e, by rw [hb.cell (p := ⟨b, off + k, none⟩) (cell_lt hc)]; exact hc⟩
theorem OwnU_read {w : World} {base : Nat} {v : Value} {L : List Int} (h : Own w base v L) : ∃ a c, v = .slice a L.length c ∧ SlU w a L.length L := by
  obtain ⟨a, c, e, hs, _⟩ := h.sl
  exact ⟨a, c, e, hs⟩
theorem OwnU_sl {w : World} {base : Nat} {a : Option Addr} {n c : Nat} {L : List Int} (h : Own w base (.slice a n c) L) : SlU w a n L := by
  obtain ⟨a', c', e, hs, _⟩ := h.sl
  cases e
  exact hs
theorem l_eqU (a b : Option Addr) (n cap m cap' : Nat) (l : List Int) (w : World) (hs : SlU w a n l) (ht : SlU w b m l) :
    Calls Tryd.prog 29 #[.slice a n cap, .slice b m cap'] w fun e w' => e = .returned (.bool true) ∧ Later w w' :=
  (l_eqInt64S a b n cap m cap' l w hs ht).mono fun e w' ⟨h1, q, h2⟩ => ⟨h1, by rw [h2]; exact (Later.refl _).drewN q⟩
theorem l_markU (v : Value) (base : Nat) (l : List Int) (n : Nat) (w : World) (hn : n = l.length) (ho : Own w base v l) (hl : n ≤ 1000000000) :
    Calls Tryd.prog 31 #[v, .int .i64 1] w fun e w' => e = .returned (.int .i64 (1 + (n : Int))) ∧ Own w' base v (mrk l n) ∧ w.grownBy w' v.ownBlock := by
  subst hn
  exact l_markInt64S v base l w ho hl
theorem l_heldU (v : Value) (base : Nat) (l : List Int) (n : Nat) (w : World) (hn : n = l.length) (ho : Own w base v (mrk l n)) (hl : n ≤ 1000000000) :
    Calls Tryd.prog 32 #[v, .int .i64 1] w fun e w' => e = .returned (.int .i64 (1 + (n : Int))) ∧ Later w w' := by
  subst hn
  exact (l_heldInt64S v base l w ho hl).mono fun e w' h => ⟨h.1, h.2 ▸ Later.refl _⟩
theorem walk_FnExactUsesOf (v : Value) (p : Prg) (s : ByteArray) (w : World) (hp : PgO w v p) (hml : s.size ≤ maxLen) (hx : Ops w) :
    Calls Tryd.prog 7 #[v, .string s] w fun e w' => e = .returned (.bool true) ∧ Below w.heap.size w w' := by
  have HX := Lib.hid hx
  have HP := Lib.hid hp
  have SZ := Lib.hid (fun W h => l_szProgram v p W h)
  have TP := Lib.hid (fun W h1 h2 => l_toProgramC v p W h1 h2)
  clear hx hml
  obtain ⟨a1, c1, a2, c2, a3, c3, a4, c4, rfl, _, _, _, _, _, _⟩ := hp
  obtain ⟨s0, hs0⟩ : ∃ q, q = tx p.nm := ⟨_, rfl⟩
  obtain ⟨s4, hs4⟩ : ∃ q, q = tx p.grd := ⟨_, rfl⟩
  obtain ⟨n1, hn1⟩ : ∃ q, q = p.ins.length := ⟨_, rfl⟩
  obtain ⟨n2, hn2⟩ : ∃ q, q = p.vrs.length := ⟨_, rfl⟩
  obtain ⟨n3, hn3⟩ : ∃ q, q = p.outs.length := ⟨_, rfl⟩
  obtain ⟨n4, hn4⟩ : ∃ q, q = p.lns.length := ⟨_, rfl⟩
  rw [← hs0, ← hs4, ← hn1, ← hn2, ← hn3, ← hn4] at HP SZ TP ⊢
  have HS : Hid (∀ W u, PgV W u p → ∃ x1 y1 x2 y2 x3 y3 x4 y4, u = .agg #[.string s0, .slice x1 n1 y1, .slice x2 n2 y2, .slice x3 n3 y3, .string s4, .slice x4 n4 y4]) := Lib.hid (by
    rintro W u ⟨x1, y1, x2, y2, x3, y3, x4, y4, rfl, _⟩
    rw [← hs0, ← hs4, ← hn1, ← hn2, ← hn3, ← hn4]
    exact ⟨_, _, _, _, _, _, _, _, rfl⟩)
  clear hs0 hs4 hn1 hn2 hn3 hn4
  have q0 : (w.alloc (.cells #[.string s0, .slice a1 n1 c1, .slice a2 n2 c2, .slice a3 n3 c3, .string s4, .slice a4 n4 c4] 41)).cell? ⟨w.heap.size, 0, none⟩ = some (.string s0) := by rw [cell_of_row _ _ 0 _ _ (0, 0) (heap_alloc_new w _)]; rfl
  have q1 : (w.alloc (.cells #[.string s0, .slice a1 n1 c1, .slice a2 n2 c2, .slice a3 n3 c3, .string s4, .slice a4 n4 c4] 41)).cell? ⟨w.heap.size, 1, none⟩ = some (.slice a1 n1 c1) := by rw [cell_of_row _ _ 1 _ _ (0, 0) (heap_alloc_new w _)]; rfl
  have q2 : (w.alloc (.cells #[.string s0, .slice a1 n1 c1, .slice a2 n2 c2, .slice a3 n3 c3, .string s4, .slice a4 n4 c4] 41)).cell? ⟨w.heap.size, 2, none⟩ = some (.slice a2 n2 c2) := by rw [cell_of_row _ _ 2 _ _ (0, 0) (heap_alloc_new w _)]; rfl
  have q3 : (w.alloc (.cells #[.string s0, .slice a1 n1 c1, .slice a2 n2 c2, .slice a3 n3 c3, .string s4, .slice a4 n4 c4] 41)).cell? ⟨w.heap.size, 3, none⟩ = some (.slice a3 n3 c3) := by rw [cell_of_row _ _ 3 _ _ (0, 0) (heap_alloc_new w _)]; rfl
  have q4 : (w.alloc (.cells #[.string s0, .slice a1 n1 c1, .slice a2 n2 c2, .slice a3 n3 c3, .string s4, .slice a4 n4 c4] 41)).cell? ⟨w.heap.size, 4, none⟩ = some (.string s4) := by rw [cell_of_row _ _ 4 _ _ (0, 0) (heap_alloc_new w _)]; rfl
  have q5 : (w.alloc (.cells #[.string s0, .slice a1 n1 c1, .slice a2 n2 c2, .slice a3 n3 c3, .string s4, .slice a4 n4 c4] 41)).cell? ⟨w.heap.size, 5, none⟩ = some (.slice a4 n4 c4) := by rw [cell_of_row _ _ 5 _ _ (0, 0) (heap_alloc_new w _)]; rfl
  have hW0 : w.heap.size < (w.alloc (.cells #[.string s0, .slice a1 n1 c1, .slice a2 n2 c2, .slice a3 n3 c3, .string s4, .slice a4 n4 c4] 41)).heap.size := by rw [World.size_alloc]; exact Nat.lt_succ_self _
  have C0 : Hid (∀ W', Later (w.alloc (.cells #[.string s0, .slice a1 n1 c1, .slice a2 n2 c2, .slice a3 n3 c3, .string s4, .slice a4 n4 c4] 41)) W' → W'.cell? ⟨w.heap.size, 0, none⟩ = some (.string s0) ∧ W'.cell? ⟨w.heap.size, 1, none⟩ = some (.slice a1 n1 c1) ∧ W'.cell? ⟨w.heap.size, 2, none⟩ = some (.slice a2 n2 c2) ∧ W'.cell? ⟨w.heap.size, 3, none⟩ = some (.slice a3 n3 c3) ∧ W'.cell? ⟨w.heap.size, 4, none⟩ = some (.string s4) ∧ W'.cell? ⟨w.heap.size, 5, none⟩ = some (.slice a4 n4 c4)) := Lib.hid (fun W' q => ⟨by rw [q.cell (p := ⟨w.heap.size, 0, none⟩) hW0]; exact q0, by rw [q.cell (p := ⟨w.heap.size, 1, none⟩) hW0]; exact q1, by rw [q.cell (p := ⟨w.heap.size, 2, none⟩) hW0]; exact q2, by rw [q.cell (p := ⟨w.heap.size, 3, none⟩) hW0]; exact q3, by rw [q.cell (p := ⟨w.heap.size, 4, none⟩) hW0]; exact q4, by rw [q.cell (p := ⟨w.heap.size, 5, none⟩) hW0]; exact q5⟩)
  have A0 : Hid (Later w (w.alloc (.cells #[.string s0, .slice a1 n1 c1, .slice a2 n2 c2, .slice a3 n3 c3, .string s4, .slice a4 n4 c4] 41))) := Lib.hid ((Later.refl _).alloc _)
  clear hW0
  by_cases hsz : 1048576 < s.size
  · go_enter Tryd.func7, Tryd.ntmps7
    go_wp2_with fail
    go_ret
    exact ⟨rfl, A0.out⟩
  go_enter Tryd.func7, Tryd.ntmps7
  go_wp2_with fail
  generalize (w.alloc (.cells #[.string s0, .slice a1 n1 c1, .slice a2 n2 c2, .slice a3 n3 c3, .string s4, .slice a4 n4 c4] 41)) = W0 at C0 A0 q0 q1 q2 q3 q4 q5 ⊢
  clear q0 q1 q2 q3 q4 q5
  refine (SZ.out _ (show PgO W0 _ p from ?_)).mono ?_
  · obtain ⟨b1, d1, b2, d2, b3, d3, b4, d4, e, h1, h2, h3, h4, h5, h6⟩ := HP.out
    exact ⟨b1, d1, b2, d2, b3, d3, b4, d4, e, h1.later A0.out, h2.later A0.out, h3.later A0.out, h4.later A0.out, h5, h6⟩
  rintro e w1 ⟨rfl | ⟨r, rfl, hsh⟩, hb⟩
  · have B1 := Lib.hid hb
    obtain ⟨q0, q1, q2, q3, q4, q5⟩ := C0.out _ hb
    clear hb
    go_wp2_with fail
    go_ret
    exact ⟨rfl, Later.trans A0.out B1.out⟩
  · have B1 := Lib.hid (show Later W0 w1 from hb)
    have P0 := Lib.hid (HP.out.pgv hsh)
    have PW := Lib.hid (show ∀ W, Later W0 W → PgV W (.agg #[.string s0, .slice a1 n1 c1, .slice a2 n2 c2, .slice a3 n3 c3, .string s4, .slice a4 n4 c4]) p from fun W h => P0.out.later (Later.trans A0.out h))
    have HSH := Lib.hid hsh
    have hlen : p.lns.length ≤ 1048576 := by have := hsh.2.2.2.2.2.1; omega
    have SS : Hid (∀ base u W, PgC base W u p → Calls Tryd.prog 28 #[u, .string s] W (RetO W (usW p s.data.toList) (blU p))) := Lib.hid (fun base u W h => by have h2 := s_UsesOf u p s.data.toList W h.pgv (by omega); rw [tx_ofS] at h2; exact h2)
    have IS : Hid (∀ base u W, PgC base W u p → Ops W → Calls Tryd.prog 23 #[u, .string s] W (RetO W (usW p s.data.toList) (blU p))) := Lib.hid (fun base u W h hW => by have h2 := i_UsesOf u p s.data.toList W h.pgv hW (by omega); rw [tx_ofS] at h2; exact h2)
    have hLb : (usW p s.data.toList).length ≤ 100000 := by
      unfold usW
      by_cases hw : wrtB p = true
      · rw [if_pos hw]
        have := usL_len p.lns s.data.toList p.lns.length
        have h40 := (wb_of p hw).2.2.2.2.2.1
        unfold useV; omega
      · rw [if_neg hw]; simp
    unfold RetO at SS IS
    generalize usW p s.data.toList = L at *
    generalize blU p = E at *
    obtain ⟨n, hn⟩ : ∃ n, n = L.length := ⟨_, rfl⟩
    have HN := Lib.hid hn
    have hn8 : n ≤ 100000 := by rw [hn]; exact hLb
    clear hn hLb
    obtain ⟨q0, q1, q2, q3, q4, q5⟩ := C0.out _ hb
    clear hb hsh
    go_wp2_with fail
    refine (TP.out _ (PW.out _ B1.out) HSH.out).mono ?_
    rintro e w2 ⟨u, rfl, hu, hb⟩
    have B2 := Lib.hid (Later.trans B1.out hb)
    have U2 := Lib.hid hu
    clear hb hu q0 q1 q2 q3 q4 q5
    obtain ⟨q0, q1, q2, q3, q4, q5⟩ := C0.out _ B2.out
    go_wp2_with fail
    refine (SS.out _ u _ U2.out).mono ?_
    rintro e w3 ⟨v0, rfl, o0, hb⟩
    have B3 := Lib.hid (Later.trans B2.out hb)
    obtain ⟨a0, k0, rfl, t0⟩ := OwnU_read o0
    rw [← HN.out] at t0 ⊢
    have T0 := Lib.hid t0
    have C3 : Hid (∀ W', Later w3 W' → W'.cell? ⟨w.heap.size, 0, none⟩ = some (.string s0) ∧ W'.cell? ⟨w.heap.size, 1, none⟩ = some (.slice a1 n1 c1) ∧ W'.cell? ⟨w.heap.size, 2, none⟩ = some (.slice a2 n2 c2) ∧ W'.cell? ⟨w.heap.size, 3, none⟩ = some (.slice a3 n3 c3) ∧ W'.cell? ⟨w.heap.size, 4, none⟩ = some (.string s4) ∧ W'.cell? ⟨w.heap.size, 5, none⟩ = some (.slice a4 n4 c4)) := Lib.hid (fun W' h => C0.out _ (B3.out.trans h))
    have P3 : Hid (∀ W', Later w3 W' → PgV W' (.agg #[.string s0, .slice a1 n1 c1, .slice a2 n2 c2, .slice a3 n3 c3, .string s4, .slice a4 n4 c4]) p) := Lib.hid (fun W' h => PW.out _ (B3.out.trans h))
    have A3 := Lib.hid (Later.trans A0.out B3.out)
    clear hb o0 t0 U2 SS q0 q1 q2 q3 q4 q5 C0 PW B1 B2 P0 HP SZ
    obtain ⟨q0, q1, q2, q3, q4, q5⟩ := C3.out _ (Later.refl _)
    go_wp2_with fail
    refine (TP.out _ (P3.out _ (Later.refl _)) HSH.out).mono ?_
    rintro e w4 ⟨u2, rfl, hu, hb⟩
    have B4 := Lib.hid hb
    obtain ⟨x1, y1, x2, y2, x3, y3, x4, y4, rfl⟩ := HS.out _ _ hu.pgv
    have U4 := Lib.hid hu
    clear hb hu q0 q1 q2 q3 q4 q5
    have F4 := Lib.hid (frP_new w4 [.string s0, .slice x1 n1 y1, .slice x2 n2 y2, .slice x3 n3 y3, .string s4, .slice x4 n4 y4] 27)
    have L4 : Hid (Later w4 (w4.alloc (.cells #[.string s0, .slice x1 n1 y1, .slice x2 n2 y2, .slice x3 n3 y3, .string s4, .slice x4 n4 y4] 27))) := Lib.hid ((Later.refl _).alloc _)
    obtain ⟨q0, q1, q2, q3, q4, q5⟩ := C3.out _ B4.out
    obtain ⟨o0, o1, o2, o3, o4, o5, _, _, _, _, _, _⟩ := F4.out.o6
    go_wp2_with fail
    refine calls_into (S := fun W => Later w4 W ∧ Fr w4.heap.size [.string s0, .slice x1 n1 y1, .slice x2 n2 y2, .slice x3 n3 y3, .string s4, .slice x4 n4 y4] W) ⟨L4.out, F4.out⟩ ?_
    clear L4 F4 o0 o1 o2 o3 o4 o5 q0 q1 q2 q3 q4 q5
    rintro W5 ⟨l5, f5⟩
    refine (IS.out _ _ _ (U4.out.later l5) (HX.out.later (A3.out.trans (B4.out.trans l5)))).mono ?_
    rintro e w6 ⟨v1, rfl, hown, hb⟩
    have L6 := Lib.hid (l5.trans hb)
    have B6 := Lib.hid (B4.out.trans L6.out)
    have X6 := Lib.hid (U4.out.later L6.out)
    have F6 := Lib.hid (fr_later f5 hb)
    have HZ5 := Lib.hid l5.size
    have O6 := Lib.hid hown
    obtain ⟨aa1, k1, rfl, t1⟩ := OwnU_read hown
    have T1 := Lib.hid t1
    rw [← HN.out] at O6 T1 ⊢
    clear hb l5 f5 hown t1
    have eV : ∀ b : Int, (b != b) = false := fun b => by simp
    obtain ⟨q0, q1, q2, q3, q4, q5⟩ := C3.out _ B6.out
    obtain ⟨o0, o1, o2, o3, o4, o5, _, _, _, _, _, _⟩ := F6.out.o6
    go_wp2_with fail
    refine (l_eqU aa1 a0 n k1 n k0 L _ T1.out (T0.out.later B6.out)).mono ?_
    rintro e w7 ⟨rfl, hb⟩
    have H7 := Lib.hid hb
    have L7 := Lib.hid (L6.out.trans hb)
    have B7 := Lib.hid (B6.out.trans hb)
    have X7 := Lib.hid (X6.out.later hb)
    have F7 := Lib.hid (fr_later F6.out hb)
    have O7 := Lib.hid (O6.out.laterU hb)
    clear hb q0 q1 q2 q3 q4 q5 o0 o1 o2 o3 o4 o5 X6 F6 O6 T1 H7
    obtain ⟨q0, q1, q2, q3, q4, q5⟩ := C3.out _ B7.out
    obtain ⟨o0, o1, o2, o3, o4, o5, _, _, _, _, _, _⟩ := F7.out.o6
    have KL : Hid (∀ W', Later w7 W' → (W'.cell? ⟨w.heap.size, 0, none⟩ = some (.string s0) ∧ W'.cell? ⟨w.heap.size, 1, none⟩ = some (.slice a1 n1 c1) ∧ W'.cell? ⟨w.heap.size, 2, none⟩ = some (.slice a2 n2 c2) ∧ W'.cell? ⟨w.heap.size, 3, none⟩ = some (.slice a3 n3 c3) ∧ W'.cell? ⟨w.heap.size, 4, none⟩ = some (.string s4) ∧ W'.cell? ⟨w.heap.size, 5, none⟩ = some (.slice a4 n4 c4)) ∧ (W'.cell? ⟨w4.heap.size, 0, none⟩ = some (.string s0) ∧ W'.cell? ⟨w4.heap.size, 1, none⟩ = some (.slice x1 n1 y1) ∧ W'.cell? ⟨w4.heap.size, 2, none⟩ = some (.slice x2 n2 y2) ∧ W'.cell? ⟨w4.heap.size, 3, none⟩ = some (.slice x3 n3 y3) ∧ W'.cell? ⟨w4.heap.size, 4, none⟩ = some (.string s4) ∧ W'.cell? ⟨w4.heap.size, 5, none⟩ = some (.slice x4 n4 y4))) := Lib.hid (fun W' q => ⟨C3.out _ (B7.out.trans q), by
      obtain ⟨o0, o1, o2, o3, o4, o5, _, _, _, _, _, _⟩ := (fr_later F7.out q).o6
      exact ⟨o0, o1, o2, o3, o4, o5⟩⟩)
    have RL := Lib.hid (Later.refl w7)
    have PW7 : Hid (∀ W, Later w7 W → PgV W (.agg #[.string s0, .slice a1 n1 c1, .slice a2 n2 c2, .slice a3 n3 c3, .string s4, .slice a4 n4 c4]) p) := Lib.hid (fun W h => P3.out _ (B7.out.trans h))
    go_wp2_with fail
    go_region_held3 (fun W' => (W'.cell? ⟨w.heap.size, 0, none⟩ = some (.string s0) ∧ W'.cell? ⟨w.heap.size, 1, none⟩ = some (.slice a1 n1 c1) ∧ W'.cell? ⟨w.heap.size, 2, none⟩ = some (.slice a2 n2 c2) ∧ W'.cell? ⟨w.heap.size, 3, none⟩ = some (.slice a3 n3 c3) ∧ W'.cell? ⟨w.heap.size, 4, none⟩ = some (.string s4) ∧ W'.cell? ⟨w.heap.size, 5, none⟩ = some (.slice a4 n4 c4)) ∧ (W'.cell? ⟨w4.heap.size, 0, none⟩ = some (.string s0) ∧ W'.cell? ⟨w4.heap.size, 1, none⟩ = some (.slice x1 n1 y1) ∧ W'.cell? ⟨w4.heap.size, 2, none⟩ = some (.slice x2 n2 y2) ∧ W'.cell? ⟨w4.heap.size, 3, none⟩ = some (.slice x3 n3 y3) ∧ W'.cell? ⟨w4.heap.size, 4, none⟩ = some (.string s4) ∧ W'.cell? ⟨w4.heap.size, 5, none⟩ = some (.slice x4 n4 y4))) (exact KL.out _ (by repeat (first | (with_reducible exact Later.refl _) | (with_reducible exact Hid.out (by assumption)) | (with_reducible refine Later.alloc ?_ _) | (with_reducible refine Later.setCell ?_ (by simp; omega) _) | (with_reducible refine Later.setCell ?_ (by simp) _) | (with_reducible refine Later.drewN ?_ _) | (with_reducible refine Later.drew ?_) | (with_reducible refine Later.trans ?_ (Hid.out (by assumption))))))
      (first
        | (go_at_call 25; refine (TP.out _ (PW7.out _ (by repeat (first | (with_reducible exact Later.refl _) | (with_reducible exact Hid.out (by assumption)) | (with_reducible refine Later.alloc ?_ _) | (with_reducible refine Later.setCell ?_ (by simp; omega) _) | (with_reducible refine Later.setCell ?_ (by simp) _) | (with_reducible refine Later.drewN ?_ _) | (with_reducible refine Later.drew ?_) | (with_reducible refine Later.trans ?_ (Hid.out (by assumption)))))) HSH.out).mono ?_; rintro e wp ⟨u7, rfl, hu, hb⟩; have U7 := Lib.hid hu; have HP7 := Lib.hid hb; clear hb hu)
        | (go_at_call 26; refine (l_eqProgram_same _ _ p _ (X7.out.pgv.later (by repeat (first | (with_reducible exact Later.refl _) | (with_reducible exact Hid.out (by assumption)) | (with_reducible refine Later.alloc ?_ _) | (with_reducible refine Later.setCell ?_ (by simp; omega) _) | (with_reducible refine Later.setCell ?_ (by simp) _) | (with_reducible refine Later.drewN ?_ _) | (with_reducible refine Later.drew ?_) | (with_reducible refine Later.trans ?_ (Hid.out (by assumption)))))) (U7.out.pgv.later (by repeat (first | (with_reducible exact Later.refl _) | (with_reducible exact Hid.out (by assumption)) | (with_reducible refine Later.alloc ?_ _) | (with_reducible refine Later.setCell ?_ (by simp; omega) _) | (with_reducible refine Later.setCell ?_ (by simp) _) | (with_reducible refine Later.drewN ?_ _) | (with_reducible refine Later.drew ?_) | (with_reducible refine Later.trans ?_ (Hid.out (by assumption))))))).mono ?_; rintro e wq ⟨rfl, hb⟩; have HQ7 := Lib.hid hb; clear hb))
    all_goals
      refine then_into (fun W => Later w7 W) (show Later w7 _ from (by repeat (first | (with_reducible exact Later.refl _) | (with_reducible exact Hid.out (by assumption)) | (with_reducible refine Later.alloc ?_ _) | (with_reducible refine Later.setCell ?_ (by simp; omega) _) | (with_reducible refine Later.setCell ?_ (by simp) _) | (with_reducible refine Later.drewN ?_ _) | (with_reducible refine Later.drew ?_) | (with_reducible refine Later.trans ?_ (Hid.out (by assumption)))))) ?_
      intro w8 hb
      clear HQ7 HP7 U7 KL PW7 RL q0 q1 q2 q3 q4 q5 o0 o1 o2 o3 o4 o5
      have L8 := Lib.hid (L7.out.trans hb)
      have B8 := Lib.hid (B7.out.trans hb)
      have F8 := Lib.hid (fr_later F7.out hb)
      have O8 := Lib.hid (O7.out.laterU hb)
      clear hb O7 F7 X7 L7 B7
      obtain ⟨q0, q1, q2, q3, q4, q5⟩ := C3.out _ B8.out
      obtain ⟨o0, o1, o2, o3, o4, o5, _, _, _, _, _, _⟩ := F8.out.o6
      go_wp2_with fail
      refine (l_markProgram w3.heap.size _ p w4 w8 U4.out L8.out HSH.out).mono ?_
      rintro e w9 ⟨d, rfl, ht⟩
      have B9 : Hid (Later w3 w9) := Lib.hid (ht.later_of B8.out (fun i hi => hi.1))
      have O9 := Lib.hid (Own.tchO O8.out (fun k hk => ht.block k (O8.out.lt k hk).2 (fun hs => by have h1 := hs.2; have h2 := (O8.out.lt k hk).1; have h3 := HZ5.out; omega)))
      clear ht O8 F8 L8 U4 q0 q1 q2 q3 q4 q5 o0 o1 o2 o3 o4 o5
      obtain ⟨q0, q1, q2, q3, q4, q5⟩ := C3.out _ B9.out
      have ed : decide ((d : Int) < 0) = false := decide_eq_false (by omega)
      have T9 := Lib.hid (OwnU_sl O9.out)
      go_wp2_with fail
      refine (l_eqU aa1 a0 n k1 n k0 L _ T9.out (T0.out.later B9.out)).mono ?_
      rintro e w10 ⟨rfl, hb⟩
      have B10 := Lib.hid (B9.out.trans hb)
      have O10 := Lib.hid (O9.out.laterU hb)
      clear hb q0 q1 q2 q3 q4 q5 T9 O9 B9 ed
      obtain ⟨q0, q1, q2, q3, q4, q5⟩ := C3.out _ B10.out
      go_wp2_with fail
      refine (l_markU _ _ L n _ HN.out O10.out (by omega)).mono ?_
      rintro e w11 ⟨rfl, ho, hg⟩
      skip
      have O11 := Lib.hid ho
      have B11 : Hid (Later w3 w11) := Lib.hid (Below.grown B10.out hg B10.out.size (fun j hj => by have h1 := (O10.out.lt j hj).1; have h2 := HZ5.out; have h3 := B4.out.size; omega))
      clear ho hg q0 q1 q2 q3 q4 q5 O10 B10
      obtain ⟨q0, q1, q2, q3, q4, q5⟩ := C3.out _ B11.out
      go_wp2_with fail
      refine (l_heldU _ _ L n _ HN.out O11.out (by omega)).mono ?_
      rintro e w12 ⟨rfl, hb⟩
      have B12 := Lib.hid (B11.out.trans hb)
      have O12 := Lib.hid (O11.out.laterU hb)
      clear hb q0 q1 q2 q3 q4 q5 O11 B11
      obtain ⟨q0, q1, q2, q3, q4, q5⟩ := C3.out _ B12.out
      go_wp2_with fail
      refine (TP.out _ (P3.out _ B12.out) HSH.out).mono ?_
      rintro e w13 ⟨u3, rfl, hu, hb⟩
      have B13 := Lib.hid (B12.out.trans hb)
      have O13 := Lib.hid (O12.out.laterU hb)
      have U13 := Lib.hid hu
      clear hb hu q0 q1 q2 q3 q4 q5 O12 B12
      go_wp2_with fail
      refine (IS.out _ _ _ U13.out (HX.out.later (A3.out.trans B13.out))).mono ?_
      rintro e w14 ⟨v2, rfl, o2, hb⟩
      have B14 := Lib.hid (B13.out.trans hb)
      have O14 := Lib.hid (O13.out.laterU hb)
      obtain ⟨aa2, k2, rfl, t2⟩ := OwnU_read o2
      rw [← HN.out] at t2 ⊢
      have T2 := Lib.hid t2
      clear hb o2 t2 U13 O13 B13
      go_wp2_with fail
      refine (l_eqU aa2 a0 n k2 n k0 L _ T2.out (T0.out.later B14.out)).mono ?_
      rintro e w15 ⟨rfl, hb⟩
      have B15 := Lib.hid (B14.out.trans hb)
      have O15 := Lib.hid (O14.out.laterU hb)
      clear hb T2 O14 B14
      go_wp2_with fail
      refine (l_heldU _ _ L n _ HN.out O15.out (by omega)).mono ?_
      rintro e w16 ⟨rfl, hb⟩
      have B16 := Lib.hid (B15.out.trans hb)
      clear hb O15 B15
      go_wp2_with fail
      go_ret
      exact ⟨rfl, A3.out.trans B16.out⟩
end Go.Proofs.YtokipobjpinhmaaDoor
