/- Programs that are written: IsWritten, of the program and of the model. -/
import Derived.Test.YtokipobjpinhmaaDoorPsWi
import Derived.Test.YtokipobjpinhmaaDoorPsWb
namespace Go.Proofs.YtokipobjpinhmaaDoor
open Go.RowKit Go.Shelf
set_option maxHeartbeats 16000000
set_option maxRecDepth 100000
set_option linter.unusedVariables false
set_option linter.unusedSimpArgs false
theorem i_IsWritten (v : Value) (p : Prg) (w : World) (hp : PgV w v p) (ho : Ops w) (hl : p.lns.length ≤ 1000000000) : Calls Tryd.prog 49 #[v] w fun e w' => e = .returned (.bool (wrtB p)) ∧ Later w w' := by
  obtain ⟨a1, c1, a2, c2, a3, c3, a4, c4, rfl, h1, h2, h3, h4, h5, h6⟩ := hp
  have P1 := Lib.hid h1; have P2 := Lib.hid h2; have P3 := Lib.hid h3; have P4 := Lib.hid h4
  have HO := Lib.hid ho
  have N0 : Hid (∀ W, Calls Tryd.prog 78 #[.string (tx p.nm)] W fun e w' => e = .returned (.bool (nmB p.nm)) ∧ Later W w') := Lib.hid (fun W => i_isName (tx p.nm) W h5)
  have N4 : Hid (∀ W, Calls Tryd.prog 78 #[.string (tx p.grd)] W fun e w' => e = .returned (.bool (nmB p.grd)) ∧ Later W w') := Lib.hid (fun W => i_isName (tx p.grd) W h6)
  have A1 := Lib.hid (fun W h => i_areNames a1 p.ins.length c1 p.ins W h)
  have A2 := Lib.hid (fun W h => i_areNames a2 p.vrs.length c2 p.vrs W h)
  have A3 := Lib.hid (fun W h => i_areNames a3 p.outs.length c3 p.outs W h)
  have A4 := Lib.hid (fun W h ho => i_areLines a4 p.lns.length c4 p.lns W h ho)
  have EG : ((tx p.grd).toList.isEmpty) = decide (p.grd = []) := by
    rw [Lib.toList_data]
    show p.grd.isEmpty = _
    cases p.grd <;> simp
  have HW : Hid (wrtB p = (nmB p.nm && (decide (p.grd = []) || nmB p.grd) && decide (1 ≤ p.ins.length) && decide (1 ≤ p.outs.length) && nmsB p.ins && nmsB p.vrs && nmsB p.outs && lnsB p.lns)) := Lib.hid rfl
  have hn1 := P1.out.2.1; have hn3 := P3.out.2.1
  obtain ⟨s0, hs0⟩ : ∃ q, q = tx p.nm := ⟨_, rfl⟩
  obtain ⟨s4, hs4⟩ : ∃ q, q = tx p.grd := ⟨_, rfl⟩
  obtain ⟨n1, hn1q⟩ : ∃ q, q = p.ins.length := ⟨_, rfl⟩
  obtain ⟨n2, hn2q⟩ : ∃ q, q = p.vrs.length := ⟨_, rfl⟩
  obtain ⟨n3, hn3q⟩ : ∃ q, q = p.outs.length := ⟨_, rfl⟩
  obtain ⟨n4, hn4q⟩ : ∃ q, q = p.lns.length := ⟨_, rfl⟩
  obtain ⟨b0, hb0⟩ : ∃ q, q = nmB p.nm := ⟨_, rfl⟩
  obtain ⟨b4, hb4⟩ : ∃ q, q = nmB p.grd := ⟨_, rfl⟩
  obtain ⟨g0, hg0⟩ : ∃ q, q = decide (p.grd = []) := ⟨_, rfl⟩
  obtain ⟨b1, hb1⟩ : ∃ q, q = nmsB p.ins := ⟨_, rfl⟩
  obtain ⟨b2, hb2⟩ : ∃ q, q = nmsB p.vrs := ⟨_, rfl⟩
  obtain ⟨b3, hb3⟩ : ∃ q, q = nmsB p.outs := ⟨_, rfl⟩
  obtain ⟨b5, hb5⟩ : ∃ q, q = lnsB p.lns := ⟨_, rfl⟩
  rw [← hs0] at N0; rw [← hs4] at N4 EG; rw [← hb0] at N0 HW; rw [← hb4] at N4 HW; rw [← hg0] at EG HW; rw [← hb1] at A1 HW; rw [← hb2] at A2 HW; rw [← hb3] at A3 HW; rw [← hb5] at A4 HW
  rw [← hn1q] at A1 P1 HW hn1; rw [← hn2q] at A2 P2; rw [← hn3q] at A3 P3 HW hn3; rw [← hn4q] at A4 P4
  rw [← hs0, ← hs4, ← hn1q, ← hn2q, ← hn3q, ← hn4q]
  clear hs0 hs4 hn1q hn2q hn3q hn4q hb0 hb4 hg0 hb1 hb2 hb3 hb5 h1 h2 h3 h4 h5 h6 ho hl
  have q0 : (w.alloc (.cells #[.string s0, .slice a1 n1 c1, .slice a2 n2 c2, .slice a3 n3 c3, .string s4, .slice a4 n4 c4] 27)).cell? ⟨w.heap.size, 0, none⟩ = some (.string s0) := by rw [cell_of_row _ _ 0 _ _ (0, 0) (heap_alloc_new w _)]; rfl
  have q1 : (w.alloc (.cells #[.string s0, .slice a1 n1 c1, .slice a2 n2 c2, .slice a3 n3 c3, .string s4, .slice a4 n4 c4] 27)).cell? ⟨w.heap.size, 1, none⟩ = some (.slice a1 n1 c1) := by rw [cell_of_row _ _ 1 _ _ (0, 0) (heap_alloc_new w _)]; rfl
  have q2 : (w.alloc (.cells #[.string s0, .slice a1 n1 c1, .slice a2 n2 c2, .slice a3 n3 c3, .string s4, .slice a4 n4 c4] 27)).cell? ⟨w.heap.size, 2, none⟩ = some (.slice a2 n2 c2) := by rw [cell_of_row _ _ 2 _ _ (0, 0) (heap_alloc_new w _)]; rfl
  have q3 : (w.alloc (.cells #[.string s0, .slice a1 n1 c1, .slice a2 n2 c2, .slice a3 n3 c3, .string s4, .slice a4 n4 c4] 27)).cell? ⟨w.heap.size, 3, none⟩ = some (.slice a3 n3 c3) := by rw [cell_of_row _ _ 3 _ _ (0, 0) (heap_alloc_new w _)]; rfl
  have q4 : (w.alloc (.cells #[.string s0, .slice a1 n1 c1, .slice a2 n2 c2, .slice a3 n3 c3, .string s4, .slice a4 n4 c4] 27)).cell? ⟨w.heap.size, 4, none⟩ = some (.string s4) := by rw [cell_of_row _ _ 4 _ _ (0, 0) (heap_alloc_new w _)]; rfl
  have q5 : (w.alloc (.cells #[.string s0, .slice a1 n1 c1, .slice a2 n2 c2, .slice a3 n3 c3, .string s4, .slice a4 n4 c4] 27)).cell? ⟨w.heap.size, 5, none⟩ = some (.slice a4 n4 c4) := by rw [cell_of_row _ _ 5 _ _ (0, 0) (heap_alloc_new w _)]; rfl
  have hW0 : w.heap.size < (w.alloc (.cells #[.string s0, .slice a1 n1 c1, .slice a2 n2 c2, .slice a3 n3 c3, .string s4, .slice a4 n4 c4] 27)).heap.size := by rw [World.size_alloc]; exact Nat.lt_succ_self _
  have C0 : Hid (∀ W', Later (w.alloc (.cells #[.string s0, .slice a1 n1 c1, .slice a2 n2 c2, .slice a3 n3 c3, .string s4, .slice a4 n4 c4] 27)) W' → W'.cell? ⟨w.heap.size, 0, none⟩ = some (.string s0) ∧ W'.cell? ⟨w.heap.size, 1, none⟩ = some (.slice a1 n1 c1) ∧ W'.cell? ⟨w.heap.size, 2, none⟩ = some (.slice a2 n2 c2) ∧ W'.cell? ⟨w.heap.size, 3, none⟩ = some (.slice a3 n3 c3) ∧ W'.cell? ⟨w.heap.size, 4, none⟩ = some (.string s4) ∧ W'.cell? ⟨w.heap.size, 5, none⟩ = some (.slice a4 n4 c4)) := Lib.hid (fun W' q => ⟨by rw [q.cell (p := ⟨w.heap.size, 0, none⟩) hW0]; exact q0, by rw [q.cell (p := ⟨w.heap.size, 1, none⟩) hW0]; exact q1, by rw [q.cell (p := ⟨w.heap.size, 2, none⟩) hW0]; exact q2, by rw [q.cell (p := ⟨w.heap.size, 3, none⟩) hW0]; exact q3, by rw [q.cell (p := ⟨w.heap.size, 4, none⟩) hW0]; exact q4, by rw [q.cell (p := ⟨w.heap.size, 5, none⟩) hW0]; exact q5⟩)
  have A0 : Hid (Later w (w.alloc (.cells #[.string s0, .slice a1 n1 c1, .slice a2 n2 c2, .slice a3 n3 c3, .string s4, .slice a4 n4 c4] 27))) := Lib.hid ((Later.refl _).alloc _)
  clear hW0
  go_enter Tryd.func49, Tryd.ntmps49
  go_wp2_with fail
  generalize w.alloc (.cells #[.string s0, .slice a1 n1 c1, .slice a2 n2 c2, .slice a3 n3 c3, .string s4, .slice a4 n4 c4] 27) = W0 at C0 A0 q0 q1 q2 q3 q4 q5 ⊢
  clear q0 q1 q2 q3 q4 q5
  refine (N0.out _).mono ?_
  rintro e w1 ⟨rfl, hb⟩
  have L1 := Lib.hid (show Later W0 w1 from hb)
  obtain ⟨q0, q1, q2, q3, q4, q5⟩ := C0.out _ hb
  clear hb
  cases b0
  · have HWF : Hid (wrtB p = false) := Lib.hid (by rw [HW.out]; rfl)
    go_wp2_with fail
    all_goals
      go_ret
      exact ⟨by rw [HWF.out]; rfl, Later.trans A0.out L1.out⟩
  · cases g0
    · cases b4
      · have HWF : Hid (wrtB p = false) := Lib.hid (by rw [HW.out]; rfl)
        go_wp2_with (first
    | (go_at_call 78; refine (N4.out _).mono ?_; rintro e w2 ⟨rfl, hb⟩; have LW := Lib.hid (Later.trans (show Later W0 _ from (Hid.out (by assumption))) hb); obtain ⟨q0, q1, q2, q3, q4, q5⟩ := C0.out _ LW.out; clear hb)
    | (go_at_call_of 88 a1; refine (A1.out _ (P1.out.later (Later.trans A0.out (Hid.out (by assumption))))).mono ?_; rintro e w2 ⟨rfl, hb⟩; have LW := Lib.hid (Later.trans (show Later W0 _ from (Hid.out (by assumption))) hb); obtain ⟨q0, q1, q2, q3, q4, q5⟩ := C0.out _ LW.out; clear hb)
    | (go_at_call_of 88 a2; refine (A2.out _ (P2.out.later (Later.trans A0.out (Hid.out (by assumption))))).mono ?_; rintro e w2 ⟨rfl, hb⟩; have LW := Lib.hid (Later.trans (show Later W0 _ from (Hid.out (by assumption))) hb); obtain ⟨q0, q1, q2, q3, q4, q5⟩ := C0.out _ LW.out; clear hb)
    | (go_at_call_of 88 a3; refine (A3.out _ (P3.out.later (Later.trans A0.out (Hid.out (by assumption))))).mono ?_; rintro e w2 ⟨rfl, hb⟩; have LW := Lib.hid (Later.trans (show Later W0 _ from (Hid.out (by assumption))) hb); obtain ⟨q0, q1, q2, q3, q4, q5⟩ := C0.out _ LW.out; clear hb)
    | (go_at_call 89; refine (A4.out _ (P4.out.later (Later.trans A0.out (Hid.out (by assumption)))) (HO.out.later (Later.trans A0.out (Hid.out (by assumption))))).mono ?_; rintro e w2 ⟨rfl, hb⟩; have LW := Lib.hid (Later.trans (show Later W0 _ from (Hid.out (by assumption))) hb); obtain ⟨q0, q1, q2, q3, q4, q5⟩ := C0.out _ LW.out; clear hb))
        all_goals
          go_ret
          exact ⟨by rw [HWF.out]; rfl, Later.trans A0.out (Hid.out (by assumption))⟩
      · have HW := Lib.hid HW.out
        rcases (show n1 = 0 ∨ (1 ≤ n1 ∧ n3 = 0) ∨ (1 ≤ n1 ∧ 1 ≤ n3) by omega) with h | ⟨h, h'⟩ | ⟨h, h'⟩
        · subst h
          go_wp2_with (first
    | (go_at_call 78; refine (N4.out _).mono ?_; rintro e w2 ⟨rfl, hb⟩; have LW := Lib.hid (Later.trans (show Later W0 _ from (Hid.out (by assumption))) hb); obtain ⟨q0, q1, q2, q3, q4, q5⟩ := C0.out _ LW.out; clear hb)
    | (go_at_call_of 88 a1; refine (A1.out _ (P1.out.later (Later.trans A0.out (Hid.out (by assumption))))).mono ?_; rintro e w2 ⟨rfl, hb⟩; have LW := Lib.hid (Later.trans (show Later W0 _ from (Hid.out (by assumption))) hb); obtain ⟨q0, q1, q2, q3, q4, q5⟩ := C0.out _ LW.out; clear hb)
    | (go_at_call_of 88 a2; refine (A2.out _ (P2.out.later (Later.trans A0.out (Hid.out (by assumption))))).mono ?_; rintro e w2 ⟨rfl, hb⟩; have LW := Lib.hid (Later.trans (show Later W0 _ from (Hid.out (by assumption))) hb); obtain ⟨q0, q1, q2, q3, q4, q5⟩ := C0.out _ LW.out; clear hb)
    | (go_at_call_of 88 a3; refine (A3.out _ (P3.out.later (Later.trans A0.out (Hid.out (by assumption))))).mono ?_; rintro e w2 ⟨rfl, hb⟩; have LW := Lib.hid (Later.trans (show Later W0 _ from (Hid.out (by assumption))) hb); obtain ⟨q0, q1, q2, q3, q4, q5⟩ := C0.out _ LW.out; clear hb)
    | (go_at_call 89; refine (A4.out _ (P4.out.later (Later.trans A0.out (Hid.out (by assumption)))) (HO.out.later (Later.trans A0.out (Hid.out (by assumption))))).mono ?_; rintro e w2 ⟨rfl, hb⟩; have LW := Lib.hid (Later.trans (show Later W0 _ from (Hid.out (by assumption))) hb); obtain ⟨q0, q1, q2, q3, q4, q5⟩ := C0.out _ LW.out; clear hb))
          all_goals
            go_ret
            exact ⟨by rw [HW.out]; rfl, Later.trans A0.out (Hid.out (by assumption))⟩
        · subst h'
          rw [decide_eq_true h] at HW
          have e1 : ((n1 : Int) == 0) = false := by simp; omega
          go_wp2_with (first
    | (go_at_call 78; refine (N4.out _).mono ?_; rintro e w2 ⟨rfl, hb⟩; have LW := Lib.hid (Later.trans (show Later W0 _ from (Hid.out (by assumption))) hb); obtain ⟨q0, q1, q2, q3, q4, q5⟩ := C0.out _ LW.out; clear hb)
    | (go_at_call_of 88 a1; refine (A1.out _ (P1.out.later (Later.trans A0.out (Hid.out (by assumption))))).mono ?_; rintro e w2 ⟨rfl, hb⟩; have LW := Lib.hid (Later.trans (show Later W0 _ from (Hid.out (by assumption))) hb); obtain ⟨q0, q1, q2, q3, q4, q5⟩ := C0.out _ LW.out; clear hb)
    | (go_at_call_of 88 a2; refine (A2.out _ (P2.out.later (Later.trans A0.out (Hid.out (by assumption))))).mono ?_; rintro e w2 ⟨rfl, hb⟩; have LW := Lib.hid (Later.trans (show Later W0 _ from (Hid.out (by assumption))) hb); obtain ⟨q0, q1, q2, q3, q4, q5⟩ := C0.out _ LW.out; clear hb)
    | (go_at_call_of 88 a3; refine (A3.out _ (P3.out.later (Later.trans A0.out (Hid.out (by assumption))))).mono ?_; rintro e w2 ⟨rfl, hb⟩; have LW := Lib.hid (Later.trans (show Later W0 _ from (Hid.out (by assumption))) hb); obtain ⟨q0, q1, q2, q3, q4, q5⟩ := C0.out _ LW.out; clear hb)
    | (go_at_call 89; refine (A4.out _ (P4.out.later (Later.trans A0.out (Hid.out (by assumption)))) (HO.out.later (Later.trans A0.out (Hid.out (by assumption))))).mono ?_; rintro e w2 ⟨rfl, hb⟩; have LW := Lib.hid (Later.trans (show Later W0 _ from (Hid.out (by assumption))) hb); obtain ⟨q0, q1, q2, q3, q4, q5⟩ := C0.out _ LW.out; clear hb))
          all_goals
            go_ret
            exact ⟨by rw [HW.out]; rfl, Later.trans A0.out (Hid.out (by assumption))⟩
        · rw [decide_eq_true h, decide_eq_true h'] at HW
          have e1 : ((n1 : Int) == 0) = false := by simp; omega
          have e3 : ((n3 : Int) == 0) = false := by simp; omega
          clear h h'
          cases b1
          · have HW : Hid (wrtB p = false) := Lib.hid (by rw [HW.out]; rfl)
            go_wp2_with (first
    | (go_at_call 78; refine (N4.out _).mono ?_; rintro e w2 ⟨rfl, hb⟩; have LW := Lib.hid (Later.trans (show Later W0 _ from (Hid.out (by assumption))) hb); obtain ⟨q0, q1, q2, q3, q4, q5⟩ := C0.out _ LW.out; clear hb)
    | (go_at_call_of 88 a1; refine (A1.out _ (P1.out.later (Later.trans A0.out (Hid.out (by assumption))))).mono ?_; rintro e w2 ⟨rfl, hb⟩; have LW := Lib.hid (Later.trans (show Later W0 _ from (Hid.out (by assumption))) hb); obtain ⟨q0, q1, q2, q3, q4, q5⟩ := C0.out _ LW.out; clear hb)
    | (go_at_call_of 88 a2; refine (A2.out _ (P2.out.later (Later.trans A0.out (Hid.out (by assumption))))).mono ?_; rintro e w2 ⟨rfl, hb⟩; have LW := Lib.hid (Later.trans (show Later W0 _ from (Hid.out (by assumption))) hb); obtain ⟨q0, q1, q2, q3, q4, q5⟩ := C0.out _ LW.out; clear hb)
    | (go_at_call_of 88 a3; refine (A3.out _ (P3.out.later (Later.trans A0.out (Hid.out (by assumption))))).mono ?_; rintro e w2 ⟨rfl, hb⟩; have LW := Lib.hid (Later.trans (show Later W0 _ from (Hid.out (by assumption))) hb); obtain ⟨q0, q1, q2, q3, q4, q5⟩ := C0.out _ LW.out; clear hb)
    | (go_at_call 89; refine (A4.out _ (P4.out.later (Later.trans A0.out (Hid.out (by assumption)))) (HO.out.later (Later.trans A0.out (Hid.out (by assumption))))).mono ?_; rintro e w2 ⟨rfl, hb⟩; have LW := Lib.hid (Later.trans (show Later W0 _ from (Hid.out (by assumption))) hb); obtain ⟨q0, q1, q2, q3, q4, q5⟩ := C0.out _ LW.out; clear hb))
            all_goals
              go_ret
              exact ⟨by rw [HW.out]; rfl, Later.trans A0.out (Hid.out (by assumption))⟩
          · cases b2
            · have HW : Hid (wrtB p = false) := Lib.hid (by rw [HW.out]; rfl)
              go_wp2_with (first
    | (go_at_call 78; refine (N4.out _).mono ?_; rintro e w2 ⟨rfl, hb⟩; have LW := Lib.hid (Later.trans (show Later W0 _ from (Hid.out (by assumption))) hb); obtain ⟨q0, q1, q2, q3, q4, q5⟩ := C0.out _ LW.out; clear hb)
    | (go_at_call_of 88 a1; refine (A1.out _ (P1.out.later (Later.trans A0.out (Hid.out (by assumption))))).mono ?_; rintro e w2 ⟨rfl, hb⟩; have LW := Lib.hid (Later.trans (show Later W0 _ from (Hid.out (by assumption))) hb); obtain ⟨q0, q1, q2, q3, q4, q5⟩ := C0.out _ LW.out; clear hb)
    | (go_at_call_of 88 a2; refine (A2.out _ (P2.out.later (Later.trans A0.out (Hid.out (by assumption))))).mono ?_; rintro e w2 ⟨rfl, hb⟩; have LW := Lib.hid (Later.trans (show Later W0 _ from (Hid.out (by assumption))) hb); obtain ⟨q0, q1, q2, q3, q4, q5⟩ := C0.out _ LW.out; clear hb)
    | (go_at_call_of 88 a3; refine (A3.out _ (P3.out.later (Later.trans A0.out (Hid.out (by assumption))))).mono ?_; rintro e w2 ⟨rfl, hb⟩; have LW := Lib.hid (Later.trans (show Later W0 _ from (Hid.out (by assumption))) hb); obtain ⟨q0, q1, q2, q3, q4, q5⟩ := C0.out _ LW.out; clear hb)
    | (go_at_call 89; refine (A4.out _ (P4.out.later (Later.trans A0.out (Hid.out (by assumption)))) (HO.out.later (Later.trans A0.out (Hid.out (by assumption))))).mono ?_; rintro e w2 ⟨rfl, hb⟩; have LW := Lib.hid (Later.trans (show Later W0 _ from (Hid.out (by assumption))) hb); obtain ⟨q0, q1, q2, q3, q4, q5⟩ := C0.out _ LW.out; clear hb))
              all_goals
                go_ret
                exact ⟨by rw [HW.out]; rfl, Later.trans A0.out (Hid.out (by assumption))⟩
            · cases b3
              · have HW : Hid (wrtB p = false) := Lib.hid (by rw [HW.out]; rfl)
                go_wp2_with (first
    | (go_at_call 78; refine (N4.out _).mono ?_; rintro e w2 ⟨rfl, hb⟩; have LW := Lib.hid (Later.trans (show Later W0 _ from (Hid.out (by assumption))) hb); obtain ⟨q0, q1, q2, q3, q4, q5⟩ := C0.out _ LW.out; clear hb)
    | (go_at_call_of 88 a1; refine (A1.out _ (P1.out.later (Later.trans A0.out (Hid.out (by assumption))))).mono ?_; rintro e w2 ⟨rfl, hb⟩; have LW := Lib.hid (Later.trans (show Later W0 _ from (Hid.out (by assumption))) hb); obtain ⟨q0, q1, q2, q3, q4, q5⟩ := C0.out _ LW.out; clear hb)
    | (go_at_call_of 88 a2; refine (A2.out _ (P2.out.later (Later.trans A0.out (Hid.out (by assumption))))).mono ?_; rintro e w2 ⟨rfl, hb⟩; have LW := Lib.hid (Later.trans (show Later W0 _ from (Hid.out (by assumption))) hb); obtain ⟨q0, q1, q2, q3, q4, q5⟩ := C0.out _ LW.out; clear hb)
    | (go_at_call_of 88 a3; refine (A3.out _ (P3.out.later (Later.trans A0.out (Hid.out (by assumption))))).mono ?_; rintro e w2 ⟨rfl, hb⟩; have LW := Lib.hid (Later.trans (show Later W0 _ from (Hid.out (by assumption))) hb); obtain ⟨q0, q1, q2, q3, q4, q5⟩ := C0.out _ LW.out; clear hb)
    | (go_at_call 89; refine (A4.out _ (P4.out.later (Later.trans A0.out (Hid.out (by assumption)))) (HO.out.later (Later.trans A0.out (Hid.out (by assumption))))).mono ?_; rintro e w2 ⟨rfl, hb⟩; have LW := Lib.hid (Later.trans (show Later W0 _ from (Hid.out (by assumption))) hb); obtain ⟨q0, q1, q2, q3, q4, q5⟩ := C0.out _ LW.out; clear hb))
                all_goals
                  go_ret
                  exact ⟨by rw [HW.out]; rfl, Later.trans A0.out (Hid.out (by assumption))⟩
              · have HW : Hid (wrtB p = b5) := Lib.hid (by rw [HW.out]; rfl)
                go_wp2_with (first
    | (go_at_call 78; refine (N4.out _).mono ?_; rintro e w2 ⟨rfl, hb⟩; have LW := Lib.hid (Later.trans (show Later W0 _ from (Hid.out (by assumption))) hb); obtain ⟨q0, q1, q2, q3, q4, q5⟩ := C0.out _ LW.out; clear hb)
    | (go_at_call_of 88 a1; refine (A1.out _ (P1.out.later (Later.trans A0.out (Hid.out (by assumption))))).mono ?_; rintro e w2 ⟨rfl, hb⟩; have LW := Lib.hid (Later.trans (show Later W0 _ from (Hid.out (by assumption))) hb); obtain ⟨q0, q1, q2, q3, q4, q5⟩ := C0.out _ LW.out; clear hb)
    | (go_at_call_of 88 a2; refine (A2.out _ (P2.out.later (Later.trans A0.out (Hid.out (by assumption))))).mono ?_; rintro e w2 ⟨rfl, hb⟩; have LW := Lib.hid (Later.trans (show Later W0 _ from (Hid.out (by assumption))) hb); obtain ⟨q0, q1, q2, q3, q4, q5⟩ := C0.out _ LW.out; clear hb)
    | (go_at_call_of 88 a3; refine (A3.out _ (P3.out.later (Later.trans A0.out (Hid.out (by assumption))))).mono ?_; rintro e w2 ⟨rfl, hb⟩; have LW := Lib.hid (Later.trans (show Later W0 _ from (Hid.out (by assumption))) hb); obtain ⟨q0, q1, q2, q3, q4, q5⟩ := C0.out _ LW.out; clear hb)
    | (go_at_call 89; refine (A4.out _ (P4.out.later (Later.trans A0.out (Hid.out (by assumption)))) (HO.out.later (Later.trans A0.out (Hid.out (by assumption))))).mono ?_; rintro e w2 ⟨rfl, hb⟩; have LW := Lib.hid (Later.trans (show Later W0 _ from (Hid.out (by assumption))) hb); obtain ⟨q0, q1, q2, q3, q4, q5⟩ := C0.out _ LW.out; clear hb))
                all_goals
                  go_ret
                  exact ⟨by rw [HW.out]; rfl, Later.trans A0.out (Hid.out (by assumption))⟩
    · have HW : Hid (wrtB p = (true && (true || true) && decide (1 ≤ n1) && decide (1 ≤ n3) && b1 && b2 && b3 && b5)) := Lib.hid (by rw [HW.out]; rfl)
      rcases (show n1 = 0 ∨ (1 ≤ n1 ∧ n3 = 0) ∨ (1 ≤ n1 ∧ 1 ≤ n3) by omega) with h | ⟨h, h'⟩ | ⟨h, h'⟩
      · subst h
        go_wp2_with (first
    | (go_at_call 78; refine (N4.out _).mono ?_; rintro e w2 ⟨rfl, hb⟩; have LW := Lib.hid (Later.trans (show Later W0 _ from (Hid.out (by assumption))) hb); obtain ⟨q0, q1, q2, q3, q4, q5⟩ := C0.out _ LW.out; clear hb)
    | (go_at_call_of 88 a1; refine (A1.out _ (P1.out.later (Later.trans A0.out (Hid.out (by assumption))))).mono ?_; rintro e w2 ⟨rfl, hb⟩; have LW := Lib.hid (Later.trans (show Later W0 _ from (Hid.out (by assumption))) hb); obtain ⟨q0, q1, q2, q3, q4, q5⟩ := C0.out _ LW.out; clear hb)
    | (go_at_call_of 88 a2; refine (A2.out _ (P2.out.later (Later.trans A0.out (Hid.out (by assumption))))).mono ?_; rintro e w2 ⟨rfl, hb⟩; have LW := Lib.hid (Later.trans (show Later W0 _ from (Hid.out (by assumption))) hb); obtain ⟨q0, q1, q2, q3, q4, q5⟩ := C0.out _ LW.out; clear hb)
    | (go_at_call_of 88 a3; refine (A3.out _ (P3.out.later (Later.trans A0.out (Hid.out (by assumption))))).mono ?_; rintro e w2 ⟨rfl, hb⟩; have LW := Lib.hid (Later.trans (show Later W0 _ from (Hid.out (by assumption))) hb); obtain ⟨q0, q1, q2, q3, q4, q5⟩ := C0.out _ LW.out; clear hb)
    | (go_at_call 89; refine (A4.out _ (P4.out.later (Later.trans A0.out (Hid.out (by assumption)))) (HO.out.later (Later.trans A0.out (Hid.out (by assumption))))).mono ?_; rintro e w2 ⟨rfl, hb⟩; have LW := Lib.hid (Later.trans (show Later W0 _ from (Hid.out (by assumption))) hb); obtain ⟨q0, q1, q2, q3, q4, q5⟩ := C0.out _ LW.out; clear hb))
        all_goals
          go_ret
          exact ⟨by rw [HW.out]; rfl, Later.trans A0.out (Hid.out (by assumption))⟩
      · subst h'
        rw [decide_eq_true h] at HW
        have e1 : ((n1 : Int) == 0) = false := by simp; omega
        go_wp2_with (first
    | (go_at_call 78; refine (N4.out _).mono ?_; rintro e w2 ⟨rfl, hb⟩; have LW := Lib.hid (Later.trans (show Later W0 _ from (Hid.out (by assumption))) hb); obtain ⟨q0, q1, q2, q3, q4, q5⟩ := C0.out _ LW.out; clear hb)
    | (go_at_call_of 88 a1; refine (A1.out _ (P1.out.later (Later.trans A0.out (Hid.out (by assumption))))).mono ?_; rintro e w2 ⟨rfl, hb⟩; have LW := Lib.hid (Later.trans (show Later W0 _ from (Hid.out (by assumption))) hb); obtain ⟨q0, q1, q2, q3, q4, q5⟩ := C0.out _ LW.out; clear hb)
    | (go_at_call_of 88 a2; refine (A2.out _ (P2.out.later (Later.trans A0.out (Hid.out (by assumption))))).mono ?_; rintro e w2 ⟨rfl, hb⟩; have LW := Lib.hid (Later.trans (show Later W0 _ from (Hid.out (by assumption))) hb); obtain ⟨q0, q1, q2, q3, q4, q5⟩ := C0.out _ LW.out; clear hb)
    | (go_at_call_of 88 a3; refine (A3.out _ (P3.out.later (Later.trans A0.out (Hid.out (by assumption))))).mono ?_; rintro e w2 ⟨rfl, hb⟩; have LW := Lib.hid (Later.trans (show Later W0 _ from (Hid.out (by assumption))) hb); obtain ⟨q0, q1, q2, q3, q4, q5⟩ := C0.out _ LW.out; clear hb)
    | (go_at_call 89; refine (A4.out _ (P4.out.later (Later.trans A0.out (Hid.out (by assumption)))) (HO.out.later (Later.trans A0.out (Hid.out (by assumption))))).mono ?_; rintro e w2 ⟨rfl, hb⟩; have LW := Lib.hid (Later.trans (show Later W0 _ from (Hid.out (by assumption))) hb); obtain ⟨q0, q1, q2, q3, q4, q5⟩ := C0.out _ LW.out; clear hb))
        all_goals
          go_ret
          exact ⟨by rw [HW.out]; rfl, Later.trans A0.out (Hid.out (by assumption))⟩
      · rw [decide_eq_true h, decide_eq_true h'] at HW
        have e1 : ((n1 : Int) == 0) = false := by simp; omega
        have e3 : ((n3 : Int) == 0) = false := by simp; omega
        clear h h'
        cases b1
        · have HW : Hid (wrtB p = false) := Lib.hid (by rw [HW.out]; rfl)
          go_wp2_with (first
    | (go_at_call 78; refine (N4.out _).mono ?_; rintro e w2 ⟨rfl, hb⟩; have LW := Lib.hid (Later.trans (show Later W0 _ from (Hid.out (by assumption))) hb); obtain ⟨q0, q1, q2, q3, q4, q5⟩ := C0.out _ LW.out; clear hb)
    | (go_at_call_of 88 a1; refine (A1.out _ (P1.out.later (Later.trans A0.out (Hid.out (by assumption))))).mono ?_; rintro e w2 ⟨rfl, hb⟩; have LW := Lib.hid (Later.trans (show Later W0 _ from (Hid.out (by assumption))) hb); obtain ⟨q0, q1, q2, q3, q4, q5⟩ := C0.out _ LW.out; clear hb)
    | (go_at_call_of 88 a2; refine (A2.out _ (P2.out.later (Later.trans A0.out (Hid.out (by assumption))))).mono ?_; rintro e w2 ⟨rfl, hb⟩; have LW := Lib.hid (Later.trans (show Later W0 _ from (Hid.out (by assumption))) hb); obtain ⟨q0, q1, q2, q3, q4, q5⟩ := C0.out _ LW.out; clear hb)
    | (go_at_call_of 88 a3; refine (A3.out _ (P3.out.later (Later.trans A0.out (Hid.out (by assumption))))).mono ?_; rintro e w2 ⟨rfl, hb⟩; have LW := Lib.hid (Later.trans (show Later W0 _ from (Hid.out (by assumption))) hb); obtain ⟨q0, q1, q2, q3, q4, q5⟩ := C0.out _ LW.out; clear hb)
    | (go_at_call 89; refine (A4.out _ (P4.out.later (Later.trans A0.out (Hid.out (by assumption)))) (HO.out.later (Later.trans A0.out (Hid.out (by assumption))))).mono ?_; rintro e w2 ⟨rfl, hb⟩; have LW := Lib.hid (Later.trans (show Later W0 _ from (Hid.out (by assumption))) hb); obtain ⟨q0, q1, q2, q3, q4, q5⟩ := C0.out _ LW.out; clear hb))
          all_goals
            go_ret
            exact ⟨by rw [HW.out]; rfl, Later.trans A0.out (Hid.out (by assumption))⟩
        · cases b2
          · have HW : Hid (wrtB p = false) := Lib.hid (by rw [HW.out]; rfl)
            go_wp2_with (first
    | (go_at_call 78; refine (N4.out _).mono ?_; rintro e w2 ⟨rfl, hb⟩; have LW := Lib.hid (Later.trans (show Later W0 _ from (Hid.out (by assumption))) hb); obtain ⟨q0, q1, q2, q3, q4, q5⟩ := C0.out _ LW.out; clear hb)
    | (go_at_call_of 88 a1; refine (A1.out _ (P1.out.later (Later.trans A0.out (Hid.out (by assumption))))).mono ?_; rintro e w2 ⟨rfl, hb⟩; have LW := Lib.hid (Later.trans (show Later W0 _ from (Hid.out (by assumption))) hb); obtain ⟨q0, q1, q2, q3, q4, q5⟩ := C0.out _ LW.out; clear hb)
    | (go_at_call_of 88 a2; refine (A2.out _ (P2.out.later (Later.trans A0.out (Hid.out (by assumption))))).mono ?_; rintro e w2 ⟨rfl, hb⟩; have LW := Lib.hid (Later.trans (show Later W0 _ from (Hid.out (by assumption))) hb); obtain ⟨q0, q1, q2, q3, q4, q5⟩ := C0.out _ LW.out; clear hb)
    | (go_at_call_of 88 a3; refine (A3.out _ (P3.out.later (Later.trans A0.out (Hid.out (by assumption))))).mono ?_; rintro e w2 ⟨rfl, hb⟩; have LW := Lib.hid (Later.trans (show Later W0 _ from (Hid.out (by assumption))) hb); obtain ⟨q0, q1, q2, q3, q4, q5⟩ := C0.out _ LW.out; clear hb)
    | (go_at_call 89; refine (A4.out _ (P4.out.later (Later.trans A0.out (Hid.out (by assumption)))) (HO.out.later (Later.trans A0.out (Hid.out (by assumption))))).mono ?_; rintro e w2 ⟨rfl, hb⟩; have LW := Lib.hid (Later.trans (show Later W0 _ from (Hid.out (by assumption))) hb); obtain ⟨q0, q1, q2, q3, q4, q5⟩ := C0.out _ LW.out; clear hb))
            all_goals
              go_ret
              exact ⟨by rw [HW.out]; rfl, Later.trans A0.out (Hid.out (by assumption))⟩
          · cases b3
            · have HW : Hid (wrtB p = false) := Lib.hid (by rw [HW.out]; rfl)
              go_wp2_with (first
    | (go_at_call 78; refine (N4.out _).mono ?_; rintro e w2 ⟨rfl, hb⟩; have LW := Lib.hid (Later.trans (show Later W0 _ from (Hid.out (by assumption))) hb); obtain ⟨q0, q1, q2, q3, q4, q5⟩ := C0.out _ LW.out; clear hb)
    | (go_at_call_of 88 a1; refine (A1.out _ (P1.out.later (Later.trans A0.out (Hid.out (by assumption))))).mono ?_; rintro e w2 ⟨rfl, hb⟩; have LW := Lib.hid (Later.trans (show Later W0 _ from (Hid.out (by assumption))) hb); obtain ⟨q0, q1, q2, q3, q4, q5⟩ := C0.out _ LW.out; clear hb)
    | (go_at_call_of 88 a2; refine (A2.out _ (P2.out.later (Later.trans A0.out (Hid.out (by assumption))))).mono ?_; rintro e w2 ⟨rfl, hb⟩; have LW := Lib.hid (Later.trans (show Later W0 _ from (Hid.out (by assumption))) hb); obtain ⟨q0, q1, q2, q3, q4, q5⟩ := C0.out _ LW.out; clear hb)
    | (go_at_call_of 88 a3; refine (A3.out _ (P3.out.later (Later.trans A0.out (Hid.out (by assumption))))).mono ?_; rintro e w2 ⟨rfl, hb⟩; have LW := Lib.hid (Later.trans (show Later W0 _ from (Hid.out (by assumption))) hb); obtain ⟨q0, q1, q2, q3, q4, q5⟩ := C0.out _ LW.out; clear hb)
    | (go_at_call 89; refine (A4.out _ (P4.out.later (Later.trans A0.out (Hid.out (by assumption)))) (HO.out.later (Later.trans A0.out (Hid.out (by assumption))))).mono ?_; rintro e w2 ⟨rfl, hb⟩; have LW := Lib.hid (Later.trans (show Later W0 _ from (Hid.out (by assumption))) hb); obtain ⟨q0, q1, q2, q3, q4, q5⟩ := C0.out _ LW.out; clear hb))
              all_goals
                go_ret
                exact ⟨by rw [HW.out]; rfl, Later.trans A0.out (Hid.out (by assumption))⟩
            · have HW : Hid (wrtB p = b5) := Lib.hid (by rw [HW.out]; rfl)
              go_wp2_with (first
    | (go_at_call 78; refine (N4.out _).mono ?_; rintro e w2 ⟨rfl, hb⟩; have LW := Lib.hid (Later.trans (show Later W0 _ from (Hid.out (by assumption))) hb); obtain ⟨q0, q1, q2, q3, q4, q5⟩ := C0.out _ LW.out; clear hb)
    | (go_at_call_of 88 a1; refine (A1.out _ (P1.out.later (Later.trans A0.out (Hid.out (by assumption))))).mono ?_; rintro e w2 ⟨rfl, hb⟩; have LW := Lib.hid (Later.trans (show Later W0 _ from (Hid.out (by assumption))) hb); obtain ⟨q0, q1, q2, q3, q4, q5⟩ := C0.out _ LW.out; clear hb)
    | (go_at_call_of 88 a2; refine (A2.out _ (P2.out.later (Later.trans A0.out (Hid.out (by assumption))))).mono ?_; rintro e w2 ⟨rfl, hb⟩; have LW := Lib.hid (Later.trans (show Later W0 _ from (Hid.out (by assumption))) hb); obtain ⟨q0, q1, q2, q3, q4, q5⟩ := C0.out _ LW.out; clear hb)
    | (go_at_call_of 88 a3; refine (A3.out _ (P3.out.later (Later.trans A0.out (Hid.out (by assumption))))).mono ?_; rintro e w2 ⟨rfl, hb⟩; have LW := Lib.hid (Later.trans (show Later W0 _ from (Hid.out (by assumption))) hb); obtain ⟨q0, q1, q2, q3, q4, q5⟩ := C0.out _ LW.out; clear hb)
    | (go_at_call 89; refine (A4.out _ (P4.out.later (Later.trans A0.out (Hid.out (by assumption)))) (HO.out.later (Later.trans A0.out (Hid.out (by assumption))))).mono ?_; rintro e w2 ⟨rfl, hb⟩; have LW := Lib.hid (Later.trans (show Later W0 _ from (Hid.out (by assumption))) hb); obtain ⟨q0, q1, q2, q3, q4, q5⟩ := C0.out _ LW.out; clear hb))
              all_goals
                go_ret
                exact ⟨by rw [HW.out]; rfl, Later.trans A0.out (Hid.out (by assumption))⟩
end Go.Proofs.YtokipobjpinhmaaDoor
