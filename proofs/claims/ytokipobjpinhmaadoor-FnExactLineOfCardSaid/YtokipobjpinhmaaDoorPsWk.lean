/- Programs that are written: IsWritten of the model. -/
import Derived.Test.YtokipobjpinhmaaDoorPsWi
import Derived.Test.YtokipobjpinhmaaDoorPsWb
namespace Go.Proofs.YtokipobjpinhmaaDoor
open Go.RowKit Go.Shelf
set_option maxHeartbeats 4000000
set_option maxRecDepth 100000
set_option linter.unusedVariables false
set_option linter.unusedSimpArgs false
theorem wrtB_model (p : Prg) : wrtB p = (nmB p.nm && (nmsB p.ins && decide (1 ≤ p.ins.length)) && (nmsB p.vrs && decide (0 ≤ p.vrs.length)) && (nmsB p.outs && decide (1 ≤ p.outs.length)) && (decide (p.grd = []) || nmB p.grd) && lnsB p.lns) := by
  unfold wrtB
  rw [decide_eq_true (Nat.zero_le p.vrs.length)]
  cases nmB p.nm <;> cases nmsB p.ins <;> cases decide (1 ≤ p.ins.length) <;> cases nmsB p.vrs <;> cases nmsB p.outs <;> cases decide (1 ≤ p.outs.length) <;> cases decide (p.grd = []) <;> cases nmB p.grd <;> cases lnsB p.lns <;> rfl
theorem s_IsWritten (v : Value) (p : Prg) (w : World) (hp : PgV w v p) (hl : p.lns.length ≤ 1000000000) : Calls Tryd.prog 51 #[v] w fun e w' => e = .returned (.bool (wrtB p)) ∧ Later w w' := by
  obtain ⟨a1, c1, a2, c2, a3, c3, a4, c4, rfl, h1, h2, h3, h4, h5, h6⟩ := hp
  have P1 := Lib.hid h1; have P2 := Lib.hid h2; have P3 := Lib.hid h3; have P4 := Lib.hid h4
  have N0 : Hid (∀ W, Calls Tryd.prog 74 #[.string (tx p.nm)] W fun e w' => e = .returned (.bool (nmB p.nm)) ∧ Later W w') := Lib.hid (fun W => s_Name (tx p.nm) W h5)
  have N4 : Hid (∀ W, Calls Tryd.prog 74 #[.string (tx p.grd)] W fun e w' => e = .returned (.bool (nmB p.grd)) ∧ Later W w') := Lib.hid (fun W => s_Name (tx p.grd) W h6)
  have A1 := Lib.hid (fun W h => s_Names a1 p.ins.length c1 p.ins 1 W (by omega) h)
  have A2 := Lib.hid (fun W h => s_Names a2 p.vrs.length c2 p.vrs 0 W (by omega) h)
  have A3 := Lib.hid (fun W h => s_Names a3 p.outs.length c3 p.outs 1 W (by omega) h)
  have EG : ((tx p.grd).toList.isEmpty) = decide (p.grd = []) := by
    rw [Lib.toList_data]
    show p.grd.isEmpty = _
    cases p.grd <;> simp
  have HW : Hid (wrtB p = (nmB p.nm && (nmsB p.ins && decide (1 ≤ p.ins.length)) && (nmsB p.vrs && decide (0 ≤ p.vrs.length)) && (nmsB p.outs && decide (1 ≤ p.outs.length)) && (decide (p.grd = []) || nmB p.grd) && lnsB p.lns)) := Lib.hid (wrtB_model p)
  have hn4 := P4.out.2.1
  obtain ⟨s0, hs0⟩ : ∃ q, q = tx p.nm := ⟨_, rfl⟩
  obtain ⟨s4, hs4⟩ : ∃ q, q = tx p.grd := ⟨_, rfl⟩
  obtain ⟨n1, hn1q⟩ : ∃ q, q = p.ins.length := ⟨_, rfl⟩
  obtain ⟨n2, hn2q⟩ : ∃ q, q = p.vrs.length := ⟨_, rfl⟩
  obtain ⟨n3, hn3q⟩ : ∃ q, q = p.outs.length := ⟨_, rfl⟩
  obtain ⟨n4, hn4q⟩ : ∃ q, q = p.lns.length := ⟨_, rfl⟩
  obtain ⟨M, hM⟩ : ∃ q, q = p.lns := ⟨_, rfl⟩
  obtain ⟨b0, hb0⟩ : ∃ q, q = nmB p.nm := ⟨_, rfl⟩
  obtain ⟨b4, hb4⟩ : ∃ q, q = nmB p.grd := ⟨_, rfl⟩
  obtain ⟨g0, hg0⟩ : ∃ q, q = decide (p.grd = []) := ⟨_, rfl⟩
  obtain ⟨d1, hd1⟩ : ∃ q, q = (nmsB p.ins && decide (1 ≤ p.ins.length)) := ⟨_, rfl⟩
  obtain ⟨d2, hd2⟩ : ∃ q, q = (nmsB p.vrs && decide (0 ≤ p.vrs.length)) := ⟨_, rfl⟩
  obtain ⟨d3, hd3⟩ : ∃ q, q = (nmsB p.outs && decide (1 ≤ p.outs.length)) := ⟨_, rfl⟩
  rw [← hd1] at A1 HW; rw [← hd2] at A2 HW; rw [← hd3] at A3 HW
  rw [← hs0] at N0; rw [← hs4] at N4 EG; rw [← hb0] at N0 HW; rw [← hb4] at N4 HW; rw [← hg0] at EG HW
  rw [← hn1q] at A1 P1; rw [← hn2q] at A2 P2; rw [← hn3q] at A3 P3; rw [← hn4q] at P4 hn4 hl; rw [← hM] at P4 HW
  rw [← hs0, ← hs4, ← hn1q, ← hn2q, ← hn3q, ← hn4q]
  have HL := Lib.hid P4.out.1
  clear hs0 hs4 hn1q hn2q hn3q hn4q hM hb0 hb4 hg0 hd1 hd2 hd3 h1 h2 h3 h4 h5 h6
  have q0 : (w.alloc (.cells #[.string s0, .slice a1 n1 c1, .slice a2 n2 c2, .slice a3 n3 c3, .string s4, .slice a4 n4 c4] 27)).cell? ⟨w.heap.size, 0, none⟩ = some (.string s0) := by rw [cell_of_row _ _ 0 _ _ (0, 0) (heap_alloc_new w _)]; rfl
  have q1 : (w.alloc (.cells #[.string s0, .slice a1 n1 c1, .slice a2 n2 c2, .slice a3 n3 c3, .string s4, .slice a4 n4 c4] 27)).cell? ⟨w.heap.size, 1, none⟩ = some (.slice a1 n1 c1) := by rw [cell_of_row _ _ 1 _ _ (0, 0) (heap_alloc_new w _)]; rfl
  have q2 : (w.alloc (.cells #[.string s0, .slice a1 n1 c1, .slice a2 n2 c2, .slice a3 n3 c3, .string s4, .slice a4 n4 c4] 27)).cell? ⟨w.heap.size, 2, none⟩ = some (.slice a2 n2 c2) := by rw [cell_of_row _ _ 2 _ _ (0, 0) (heap_alloc_new w _)]; rfl
  have q3 : (w.alloc (.cells #[.string s0, .slice a1 n1 c1, .slice a2 n2 c2, .slice a3 n3 c3, .string s4, .slice a4 n4 c4] 27)).cell? ⟨w.heap.size, 3, none⟩ = some (.slice a3 n3 c3) := by rw [cell_of_row _ _ 3 _ _ (0, 0) (heap_alloc_new w _)]; rfl
  have q4 : (w.alloc (.cells #[.string s0, .slice a1 n1 c1, .slice a2 n2 c2, .slice a3 n3 c3, .string s4, .slice a4 n4 c4] 27)).cell? ⟨w.heap.size, 4, none⟩ = some (.string s4) := by rw [cell_of_row _ _ 4 _ _ (0, 0) (heap_alloc_new w _)]; rfl
  have q5 : (w.alloc (.cells #[.string s0, .slice a1 n1 c1, .slice a2 n2 c2, .slice a3 n3 c3, .string s4, .slice a4 n4 c4] 27)).cell? ⟨w.heap.size, 5, none⟩ = some (.slice a4 n4 c4) := by rw [cell_of_row _ _ 5 _ _ (0, 0) (heap_alloc_new w _)]; rfl
  have hW0 : w.heap.size < (w.alloc (.cells #[.string s0, .slice a1 n1 c1, .slice a2 n2 c2, .slice a3 n3 c3, .string s4, .slice a4 n4 c4] 27)).heap.size := by rw [World.size_alloc]; exact Nat.lt_succ_self _
  have C0 : Hid (∀ W', Later (w.alloc (.cells #[.string s0, .slice a1 n1 c1, .slice a2 n2 c2, .slice a3 n3 c3, .string s4, .slice a4 n4 c4] 27)) W' → W'.cell? ⟨w.heap.size, 0, none⟩ = some (.string s0) ∧ W'.cell? ⟨w.heap.size, 1, none⟩ = some (.slice a1 n1 c1) ∧ W'.cell? ⟨w.heap.size, 2, none⟩ = some (.slice a2 n2 c2) ∧ W'.cell? ⟨w.heap.size, 3, none⟩ = some (.slice a3 n3 c3) ∧ W'.cell? ⟨w.heap.size, 4, none⟩ = some (.string s4) ∧ W'.cell? ⟨w.heap.size, 5, none⟩ = some (.slice a4 n4 c4)) := Lib.hid (fun W' q => ⟨by rw [q.cell (p := ⟨w.heap.size, 0, none⟩) hW0]; exact q0, by rw [q.cell (p := ⟨w.heap.size, 1, none⟩) hW0]; exact q1, by rw [q.cell (p := ⟨w.heap.size, 2, none⟩) hW0]; exact q2, by rw [q.cell (p := ⟨w.heap.size, 3, none⟩) hW0]; exact q3, by rw [q.cell (p := ⟨w.heap.size, 4, none⟩) hW0]; exact q4, by rw [q.cell (p := ⟨w.heap.size, 5, none⟩) hW0]; exact q5⟩)
  have A0 : Hid (Later w (w.alloc (.cells #[.string s0, .slice a1 n1 c1, .slice a2 n2 c2, .slice a3 n3 c3, .string s4, .slice a4 n4 c4] 27))) := Lib.hid ((Later.refl _).alloc _)
  clear hW0
  go_enter Tryd.func51, Tryd.ntmps51
  go_wp2_with fail
  generalize w.alloc (.cells #[.string s0, .slice a1 n1 c1, .slice a2 n2 c2, .slice a3 n3 c3, .string s4, .slice a4 n4 c4] 27) = W0 at C0 A0 q0 q1 q2 q3 q4 q5 ⊢
  clear q0 q1 q2 q3 q4 q5
  refine (N0.out _).mono ?_
  rintro e w1 ⟨rfl, hb⟩
  have L1 := Lib.hid (show Later W0 w1 from hb)
  obtain ⟨q0, q1, q2, q3, q4, q5⟩ := C0.out _ hb
  clear hb
  cases b0
  · have HWF : Hid (wrtB p = false) := Lib.hid (by rw [HW.out]; rfl)
    go_wp2_with fail
    all_goals
      go_ret
      exact ⟨by rw [HWF.out]; rfl, Later.trans A0.out L1.out⟩
  cases d1
  · have HWF : Hid (wrtB p = false) := Lib.hid (by rw [HW.out]; rfl)
    go_wp2_with (first
    | (go_at_call_of 74 s4; refine (N4.out _).mono ?_; rintro e w2 ⟨rfl, hb⟩; have LW := Lib.hid (Later.trans (show Later W0 _ from (Hid.out (by assumption))) hb); obtain ⟨q0, q1, q2, q3, q4, q5⟩ := C0.out _ LW.out; clear hb)
    | (go_at_call_of 96 a1; refine (A1.out _ (P1.out.later (Later.trans A0.out (Hid.out (by assumption))))).mono ?_; rintro e w2 ⟨rfl, hb⟩; have LW := Lib.hid (Later.trans (show Later W0 _ from (Hid.out (by assumption))) hb); obtain ⟨q0, q1, q2, q3, q4, q5⟩ := C0.out _ LW.out; clear hb)
    | (go_at_call_of 96 a2; refine (A2.out _ (P2.out.later (Later.trans A0.out (Hid.out (by assumption))))).mono ?_; rintro e w2 ⟨rfl, hb⟩; have LW := Lib.hid (Later.trans (show Later W0 _ from (Hid.out (by assumption))) hb); obtain ⟨q0, q1, q2, q3, q4, q5⟩ := C0.out _ LW.out; clear hb)
    | (go_at_call_of 96 a3; refine (A3.out _ (P3.out.later (Later.trans A0.out (Hid.out (by assumption))))).mono ?_; rintro e w2 ⟨rfl, hb⟩; have LW := Lib.hid (Later.trans (show Later W0 _ from (Hid.out (by assumption))) hb); obtain ⟨q0, q1, q2, q3, q4, q5⟩ := C0.out _ LW.out; clear hb))
    all_goals
      go_ret
      exact ⟨by rw [HWF.out]; rfl, Later.trans A0.out (Hid.out (by assumption))⟩
  cases d2
  · have HWF : Hid (wrtB p = false) := Lib.hid (by rw [HW.out]; rfl)
    go_wp2_with (first
    | (go_at_call_of 74 s4; refine (N4.out _).mono ?_; rintro e w2 ⟨rfl, hb⟩; have LW := Lib.hid (Later.trans (show Later W0 _ from (Hid.out (by assumption))) hb); obtain ⟨q0, q1, q2, q3, q4, q5⟩ := C0.out _ LW.out; clear hb)
    | (go_at_call_of 96 a1; refine (A1.out _ (P1.out.later (Later.trans A0.out (Hid.out (by assumption))))).mono ?_; rintro e w2 ⟨rfl, hb⟩; have LW := Lib.hid (Later.trans (show Later W0 _ from (Hid.out (by assumption))) hb); obtain ⟨q0, q1, q2, q3, q4, q5⟩ := C0.out _ LW.out; clear hb)
    | (go_at_call_of 96 a2; refine (A2.out _ (P2.out.later (Later.trans A0.out (Hid.out (by assumption))))).mono ?_; rintro e w2 ⟨rfl, hb⟩; have LW := Lib.hid (Later.trans (show Later W0 _ from (Hid.out (by assumption))) hb); obtain ⟨q0, q1, q2, q3, q4, q5⟩ := C0.out _ LW.out; clear hb)
    | (go_at_call_of 96 a3; refine (A3.out _ (P3.out.later (Later.trans A0.out (Hid.out (by assumption))))).mono ?_; rintro e w2 ⟨rfl, hb⟩; have LW := Lib.hid (Later.trans (show Later W0 _ from (Hid.out (by assumption))) hb); obtain ⟨q0, q1, q2, q3, q4, q5⟩ := C0.out _ LW.out; clear hb))
    all_goals
      go_ret
      exact ⟨by rw [HWF.out]; rfl, Later.trans A0.out (Hid.out (by assumption))⟩
  cases d3
  · have HWF : Hid (wrtB p = false) := Lib.hid (by rw [HW.out]; rfl)
    go_wp2_with (first
    | (go_at_call_of 74 s4; refine (N4.out _).mono ?_; rintro e w2 ⟨rfl, hb⟩; have LW := Lib.hid (Later.trans (show Later W0 _ from (Hid.out (by assumption))) hb); obtain ⟨q0, q1, q2, q3, q4, q5⟩ := C0.out _ LW.out; clear hb)
    | (go_at_call_of 96 a1; refine (A1.out _ (P1.out.later (Later.trans A0.out (Hid.out (by assumption))))).mono ?_; rintro e w2 ⟨rfl, hb⟩; have LW := Lib.hid (Later.trans (show Later W0 _ from (Hid.out (by assumption))) hb); obtain ⟨q0, q1, q2, q3, q4, q5⟩ := C0.out _ LW.out; clear hb)
    | (go_at_call_of 96 a2; refine (A2.out _ (P2.out.later (Later.trans A0.out (Hid.out (by assumption))))).mono ?_; rintro e w2 ⟨rfl, hb⟩; have LW := Lib.hid (Later.trans (show Later W0 _ from (Hid.out (by assumption))) hb); obtain ⟨q0, q1, q2, q3, q4, q5⟩ := C0.out _ LW.out; clear hb)
    | (go_at_call_of 96 a3; refine (A3.out _ (P3.out.later (Later.trans A0.out (Hid.out (by assumption))))).mono ?_; rintro e w2 ⟨rfl, hb⟩; have LW := Lib.hid (Later.trans (show Later W0 _ from (Hid.out (by assumption))) hb); obtain ⟨q0, q1, q2, q3, q4, q5⟩ := C0.out _ LW.out; clear hb))
    all_goals
      go_ret
      exact ⟨by rw [HWF.out]; rfl, Later.trans A0.out (Hid.out (by assumption))⟩
  cases g0
  · cases b4
    · have HWF : Hid (wrtB p = false) := Lib.hid (by rw [HW.out]; rfl)
      go_wp2_with (first
    | (go_at_call_of 74 s4; refine (N4.out _).mono ?_; rintro e w2 ⟨rfl, hb⟩; have LW := Lib.hid (Later.trans (show Later W0 _ from (Hid.out (by assumption))) hb); obtain ⟨q0, q1, q2, q3, q4, q5⟩ := C0.out _ LW.out; clear hb)
    | (go_at_call_of 96 a1; refine (A1.out _ (P1.out.later (Later.trans A0.out (Hid.out (by assumption))))).mono ?_; rintro e w2 ⟨rfl, hb⟩; have LW := Lib.hid (Later.trans (show Later W0 _ from (Hid.out (by assumption))) hb); obtain ⟨q0, q1, q2, q3, q4, q5⟩ := C0.out _ LW.out; clear hb)
    | (go_at_call_of 96 a2; refine (A2.out _ (P2.out.later (Later.trans A0.out (Hid.out (by assumption))))).mono ?_; rintro e w2 ⟨rfl, hb⟩; have LW := Lib.hid (Later.trans (show Later W0 _ from (Hid.out (by assumption))) hb); obtain ⟨q0, q1, q2, q3, q4, q5⟩ := C0.out _ LW.out; clear hb)
    | (go_at_call_of 96 a3; refine (A3.out _ (P3.out.later (Later.trans A0.out (Hid.out (by assumption))))).mono ?_; rintro e w2 ⟨rfl, hb⟩; have LW := Lib.hid (Later.trans (show Later W0 _ from (Hid.out (by assumption))) hb); obtain ⟨q0, q1, q2, q3, q4, q5⟩ := C0.out _ LW.out; clear hb))
      all_goals
        go_ret
        exact ⟨by rw [HWF.out]; rfl, Later.trans A0.out (Hid.out (by assumption))⟩
    · have HW : Hid (wrtB p = lnsB M) := Lib.hid (by rw [HW.out]; rfl)
      go_wp2_with (first
          | (go_at_call_of 74 s4; refine (N4.out _).mono ?_; rintro e w2 ⟨rfl, hb⟩; have LW := Lib.hid (Later.trans (show Later W0 _ from (Hid.out (by assumption))) hb); obtain ⟨q0, q1, q2, q3, q4, q5⟩ := C0.out _ LW.out; clear hb)
          | (go_at_call_of 96 a1; refine (A1.out _ (P1.out.later (Later.trans A0.out (Hid.out (by assumption))))).mono ?_; rintro e w2 ⟨rfl, hb⟩; have LW := Lib.hid (Later.trans (show Later W0 _ from (Hid.out (by assumption))) hb); obtain ⟨q0, q1, q2, q3, q4, q5⟩ := C0.out _ LW.out; clear hb)
          | (go_at_call_of 96 a2; refine (A2.out _ (P2.out.later (Later.trans A0.out (Hid.out (by assumption))))).mono ?_; rintro e w2 ⟨rfl, hb⟩; have LW := Lib.hid (Later.trans (show Later W0 _ from (Hid.out (by assumption))) hb); obtain ⟨q0, q1, q2, q3, q4, q5⟩ := C0.out _ LW.out; clear hb)
          | (go_at_call_of 96 a3; refine (A3.out _ (P3.out.later (Later.trans A0.out (Hid.out (by assumption))))).mono ?_; rintro e w2 ⟨rfl, hb⟩; have LW := Lib.hid (Later.trans (show Later W0 _ from (Hid.out (by assumption))) hb); obtain ⟨q0, q1, q2, q3, q4, q5⟩ := C0.out _ LW.out; clear hb))
      clear q0 q1 q2 q3 q4 q5
      go_loopw [3] (fun i wr => ∃ k : Nat, k ≤ n4 ∧ i = .int .i64 k ∧ Later W0 wr ∧ Hid (∀ j, j < k → lnOk M j = true)) (fun i _ => n4 - (intOf i).toNat)
      case atStart => exact ⟨0, by omega, rfl, (Hid.out (by assumption)), Lib.hid (by intro j h; omega)⟩
      case round =>
        obtain ⟨k, hk, rfl, hb, HI⟩ := hrel
        have B3 := Lib.hid hb
        obtain ⟨q0, q1, q2, q3, q4, q5⟩ := C0.out _ hb
        by_cases hlt : k < n4
        · have PL := Lib.hid (P4.out.later (Later.trans A0.out hb))
          obtain ⟨b, off, ta, tc, rfl, z0, z1, z2⟩ := PL.out.2.2.1 k hlt
          have hle := (PL.out.rng k hlt).1
          have hle2 := (PL.out.rng k hlt).2
          have HT2 := Lib.hid z2
          have IN : Hid (∀ W', Calls Tryd.prog 74 #[.string (tx (ltx M k))] W' fun e w' => e = .returned (.bool (nmB (ltx M k))) ∧ Later W' w') := Lib.hid (fun W' => s_Name (tx (ltx M k)) W' hle)
          have IE := Lib.hid (fun W' h1 => s_IsExpression ta (lrx M k).length tc (lrx M k) W' h1 (by omega))
          have HK : Hid (lnOk M k = (nmB (ltx M k) && exB (lrx M k))) := Lib.hid rfl
          obtain ⟨y, hy⟩ : ∃ y, y = tx (ltx M k) := ⟨_, rfl⟩
          obtain ⟨q, hq⟩ : ∃ y, y = (lrx M k).length := ⟨_, rfl⟩
          obtain ⟨t1, ht1⟩ : ∃ b, b = nmB (ltx M k) := ⟨_, rfl⟩
          obtain ⟨t2, ht2⟩ : ∃ b, b = exB (lrx M k) := ⟨_, rfl⟩
          rw [← hy] at z0 IN; rw [← hq] at z1 IE HT2
          rw [← ht1] at IN HK; rw [← ht2] at IE HK
          have Z0 := Lib.hid z0; have Z1 := Lib.hid z1
          have KL : Hid (∀ W', Later wr W' → W'.cell? ⟨b, off + k * 2, none⟩ = some (.string y) ∧ W'.cell? ⟨b, off + k * 2 + 1, none⟩ = some (.slice ta q tc)) := Lib.hid (fun W' h => ⟨by rw [h.cell (p := ⟨b, off + k * 2, none⟩) (cell_lt Z0.out)]; exact Z0.out, by rw [h.cell (p := ⟨b, off + k * 2 + 1, none⟩) (cell_lt Z0.out)]; exact Z1.out⟩)
          clear hy hq ht1 ht2 hb hle hle2 z2
          cases t1
          · have HB : Hid (lnsB M = false) := Lib.hid (by unfold lnsB; rw [allL_bad M k (by rw [HL.out]; exact hlt) (by rw [HK.out]; rfl)]; rfl)
            go_wp2_with (go_at_call 74; refine (IN.out _).mono ?_; rintro e w3 ⟨rfl, hb⟩; have L3 := Lib.hid (Later.trans B3.out hb); obtain ⟨q0, q1, q2, q3, q4, q5⟩ := C0.out _ L3.out; obtain ⟨z0, z1⟩ := KL.out _ hb; clear hb)
            all_goals
              go_ret
              exact ⟨by rw [HW.out, HB.out]; rfl, Later.trans A0.out L3.out⟩
          · cases t2
            · have HB : Hid (lnsB M = false) := Lib.hid (by unfold lnsB; rw [allL_bad M k (by rw [HL.out]; exact hlt) (by rw [HK.out]; rfl)]; rfl)
              go_wp2_with (first | (go_at_call 74; refine (IN.out _).mono ?_; rintro e w3 ⟨rfl, hb⟩; have LR := Lib.hid hb; have L3 := Lib.hid (Later.trans B3.out hb); obtain ⟨q0, q1, q2, q3, q4, q5⟩ := C0.out _ L3.out; obtain ⟨z0, z1⟩ := KL.out _ hb; clear hb) | (go_at_call 97; refine (IE.out _ (HT2.out.later LR.out)).mono ?_; rintro e w4 ⟨rfl, hb⟩; have L4 := Lib.hid (Later.trans L3.out hb); clear hb))
              all_goals
                go_ret
                exact ⟨by rw [HW.out, HB.out]; rfl, Later.trans A0.out L4.out⟩
            · go_wp2_with (first | (go_at_call 74; refine (IN.out _).mono ?_; rintro e w3 ⟨rfl, hb⟩; have LR := Lib.hid hb; have L3 := Lib.hid (Later.trans B3.out hb); obtain ⟨q0, q1, q2, q3, q4, q5⟩ := C0.out _ L3.out; obtain ⟨z0, z1⟩ := KL.out _ hb; clear hb) | (go_at_call 97; refine (IE.out _ (HT2.out.later LR.out)).mono ?_; rintro e w4 ⟨rfl, hb⟩; have L4 := Lib.hid (Later.trans L3.out hb); clear hb))
              all_goals
                go_roundw
                case rel =>
                  refine ⟨k + 1, by omega, by go_num, L4.out, Lib.hid ?_⟩
                  intro q hq
                  rcases Nat.lt_or_ge q k with h1 | h1
                  · exact HI.out q h1
                  · obtain rfl : q = k := by omega
                    exact HK.out
                case measure => simp [intOf]; omega
        · obtain rfl : k = n4 := by omega
          have HF : Hid (lnsB M = (decide ((1 : Int) ≤ (k : Int)) && decide ((k : Int) ≤ 40))) := Lib.hid (by
            unfold lnsB; rw [allL_all M (by rw [HL.out]; exact HI.out), HL.out, Bool.true_and]
            congr 1
            · exact decide_eq_decide.2 (by omega)
            · exact decide_eq_decide.2 (by omega))
          have IR := Lib.hid (fun W' => s_InR (k : Int) 1 40 W' ⟨by omega, by omega⟩)
          obtain ⟨t, ht⟩ : ∃ t, t = (decide ((1 : Int) ≤ (k : Int)) && decide ((k : Int) ≤ 40)) := ⟨_, rfl⟩
          rw [← ht] at HF IR
          clear hb ht
          go_wp2_with (go_at_call 98; refine (IR.out _).mono ?_; rintro e w' ⟨rfl, rfl⟩)
          go_ret
          exact ⟨by rw [HW.out, HF.out]; rfl, Later.trans A0.out B3.out⟩
  · have HW : Hid (wrtB p = lnsB M) := Lib.hid (by rw [HW.out]; rfl)
    go_wp2_with (first
        | (go_at_call_of 74 s4; refine (N4.out _).mono ?_; rintro e w2 ⟨rfl, hb⟩; have LW := Lib.hid (Later.trans (show Later W0 _ from (Hid.out (by assumption))) hb); obtain ⟨q0, q1, q2, q3, q4, q5⟩ := C0.out _ LW.out; clear hb)
        | (go_at_call_of 96 a1; refine (A1.out _ (P1.out.later (Later.trans A0.out (Hid.out (by assumption))))).mono ?_; rintro e w2 ⟨rfl, hb⟩; have LW := Lib.hid (Later.trans (show Later W0 _ from (Hid.out (by assumption))) hb); obtain ⟨q0, q1, q2, q3, q4, q5⟩ := C0.out _ LW.out; clear hb)
        | (go_at_call_of 96 a2; refine (A2.out _ (P2.out.later (Later.trans A0.out (Hid.out (by assumption))))).mono ?_; rintro e w2 ⟨rfl, hb⟩; have LW := Lib.hid (Later.trans (show Later W0 _ from (Hid.out (by assumption))) hb); obtain ⟨q0, q1, q2, q3, q4, q5⟩ := C0.out _ LW.out; clear hb)
        | (go_at_call_of 96 a3; refine (A3.out _ (P3.out.later (Later.trans A0.out (Hid.out (by assumption))))).mono ?_; rintro e w2 ⟨rfl, hb⟩; have LW := Lib.hid (Later.trans (show Later W0 _ from (Hid.out (by assumption))) hb); obtain ⟨q0, q1, q2, q3, q4, q5⟩ := C0.out _ LW.out; clear hb))
    clear q0 q1 q2 q3 q4 q5
    go_loopw [3] (fun i wr => ∃ k : Nat, k ≤ n4 ∧ i = .int .i64 k ∧ Later W0 wr ∧ Hid (∀ j, j < k → lnOk M j = true)) (fun i _ => n4 - (intOf i).toNat)
    case atStart => exact ⟨0, by omega, rfl, (Hid.out (by assumption)), Lib.hid (by intro j h; omega)⟩
    case round =>
      obtain ⟨k, hk, rfl, hb, HI⟩ := hrel
      have B3 := Lib.hid hb
      obtain ⟨q0, q1, q2, q3, q4, q5⟩ := C0.out _ hb
      by_cases hlt : k < n4
      · have PL := Lib.hid (P4.out.later (Later.trans A0.out hb))
        obtain ⟨b, off, ta, tc, rfl, z0, z1, z2⟩ := PL.out.2.2.1 k hlt
        have hle := (PL.out.rng k hlt).1
        have hle2 := (PL.out.rng k hlt).2
        have HT2 := Lib.hid z2
        have IN : Hid (∀ W', Calls Tryd.prog 74 #[.string (tx (ltx M k))] W' fun e w' => e = .returned (.bool (nmB (ltx M k))) ∧ Later W' w') := Lib.hid (fun W' => s_Name (tx (ltx M k)) W' hle)
        have IE := Lib.hid (fun W' h1 => s_IsExpression ta (lrx M k).length tc (lrx M k) W' h1 (by omega))
        have HK : Hid (lnOk M k = (nmB (ltx M k) && exB (lrx M k))) := Lib.hid rfl
        obtain ⟨y, hy⟩ : ∃ y, y = tx (ltx M k) := ⟨_, rfl⟩
        obtain ⟨q, hq⟩ : ∃ y, y = (lrx M k).length := ⟨_, rfl⟩
        obtain ⟨t1, ht1⟩ : ∃ b, b = nmB (ltx M k) := ⟨_, rfl⟩
        obtain ⟨t2, ht2⟩ : ∃ b, b = exB (lrx M k) := ⟨_, rfl⟩
        rw [← hy] at z0 IN; rw [← hq] at z1 IE HT2
        rw [← ht1] at IN HK; rw [← ht2] at IE HK
        have Z0 := Lib.hid z0; have Z1 := Lib.hid z1
        have KL : Hid (∀ W', Later wr W' → W'.cell? ⟨b, off + k * 2, none⟩ = some (.string y) ∧ W'.cell? ⟨b, off + k * 2 + 1, none⟩ = some (.slice ta q tc)) := Lib.hid (fun W' h => ⟨by rw [h.cell (p := ⟨b, off + k * 2, none⟩) (cell_lt Z0.out)]; exact Z0.out, by rw [h.cell (p := ⟨b, off + k * 2 + 1, none⟩) (cell_lt Z0.out)]; exact Z1.out⟩)
        clear hy hq ht1 ht2 hb hle hle2 z2
        cases t1
        · have HB : Hid (lnsB M = false) := Lib.hid (by unfold lnsB; rw [allL_bad M k (by rw [HL.out]; exact hlt) (by rw [HK.out]; rfl)]; rfl)
          go_wp2_with (go_at_call 74; refine (IN.out _).mono ?_; rintro e w3 ⟨rfl, hb⟩; have L3 := Lib.hid (Later.trans B3.out hb); obtain ⟨q0, q1, q2, q3, q4, q5⟩ := C0.out _ L3.out; obtain ⟨z0, z1⟩ := KL.out _ hb; clear hb)
          all_goals
            go_ret
            exact ⟨by rw [HW.out, HB.out]; rfl, Later.trans A0.out L3.out⟩
        · cases t2
          · have HB : Hid (lnsB M = false) := Lib.hid (by unfold lnsB; rw [allL_bad M k (by rw [HL.out]; exact hlt) (by rw [HK.out]; rfl)]; rfl)
            go_wp2_with (first | (go_at_call 74; refine (IN.out _).mono ?_; rintro e w3 ⟨rfl, hb⟩; have LR := Lib.hid hb; have L3 := Lib.hid (Later.trans B3.out hb); obtain ⟨q0, q1, q2, q3, q4, q5⟩ := C0.out _ L3.out; obtain ⟨z0, z1⟩ := KL.out _ hb; clear hb) | (go_at_call 97; refine (IE.out _ (HT2.out.later LR.out)).mono ?_; rintro e w4 ⟨rfl, hb⟩; have L4 := Lib.hid (Later.trans L3.out hb); clear hb))
            all_goals
              go_ret
              exact ⟨by rw [HW.out, HB.out]; rfl, Later.trans A0.out L4.out⟩
          · go_wp2_with (first | (go_at_call 74; refine (IN.out _).mono ?_; rintro e w3 ⟨rfl, hb⟩; have LR := Lib.hid hb; have L3 := Lib.hid (Later.trans B3.out hb); obtain ⟨q0, q1, q2, q3, q4, q5⟩ := C0.out _ L3.out; obtain ⟨z0, z1⟩ := KL.out _ hb; clear hb) | (go_at_call 97; refine (IE.out _ (HT2.out.later LR.out)).mono ?_; rintro e w4 ⟨rfl, hb⟩; have L4 := Lib.hid (Later.trans L3.out hb); clear hb))
            all_goals
              go_roundw
              case rel =>
                refine ⟨k + 1, by omega, by go_num, L4.out, Lib.hid ?_⟩
                intro q hq
                rcases Nat.lt_or_ge q k with h1 | h1
                · exact HI.out q h1
                · obtain rfl : q = k := by omega
                  exact HK.out
              case measure => simp [intOf]; omega
      · obtain rfl : k = n4 := by omega
        have HF : Hid (lnsB M = (decide ((1 : Int) ≤ (k : Int)) && decide ((k : Int) ≤ 40))) := Lib.hid (by
          unfold lnsB; rw [allL_all M (by rw [HL.out]; exact HI.out), HL.out, Bool.true_and]
          congr 1
          · exact decide_eq_decide.2 (by omega)
          · exact decide_eq_decide.2 (by omega))
        have IR := Lib.hid (fun W' => s_InR (k : Int) 1 40 W' ⟨by omega, by omega⟩)
        obtain ⟨t, ht⟩ : ∃ t, t = (decide ((1 : Int) ≤ (k : Int)) && decide ((k : Int) ≤ 40)) := ⟨_, rfl⟩
        rw [← ht] at HF IR
        clear hb ht
        go_wp2_with (go_at_call 98; refine (IR.out _).mono ?_; rintro e w' ⟨rfl, rfl⟩)
        go_ret
        exact ⟨by rw [HW.out, HF.out]; rfl, Later.trans A0.out B3.out⟩
end Go.Proofs.YtokipobjpinhmaaDoor
