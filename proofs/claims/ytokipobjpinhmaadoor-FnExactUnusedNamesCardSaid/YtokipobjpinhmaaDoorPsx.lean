/- The laws' helpers on programs that came in: the whole size. -/
import Derived.Test.YtokipobjpinhmaaDoorPsw
namespace Go.Proofs.YtokipobjpinhmaaDoor
open Go.RowKit Go.Shelf
set_option maxHeartbeats 8000000
set_option maxRecDepth 100000
set_option linter.unusedVariables false
set_option linter.unusedSimpArgs false
/-- p is short -/
def PShort (p : Prg) : Prop := p.nm.length ≤ 1048576 ∧ (p.ins.length ≤ 1048576 ∧ ∀ j, j < p.ins.length → (wx p.ins j).length ≤ 1048576) ∧ (p.vrs.length ≤ 1048576 ∧ ∀ j, j < p.vrs.length → (wx p.vrs j).length ≤ 1048576) ∧ (p.outs.length ≤ 1048576 ∧ ∀ j, j < p.outs.length → (wx p.outs j).length ≤ 1048576) ∧ p.grd.length ≤ 1048576 ∧ (p.lns.length ≤ 1048576 ∧ ∀ j, j < p.lns.length → LShort p.lns j)
theorem PgO.pgv {w : World} {v : Value} {p : Prg} (h : PgO w v p) (hs : PShort p) : PgV w v p := by
  obtain ⟨a1, c1, a2, c2, a3, c3, a4, c4, h0, h1, h2, h3, h4, h5, h6⟩ := h
  obtain ⟨s0, s1, s2, s3, s4, s5⟩ := hs
  exact ⟨a1, c1, a2, c2, a3, c3, a4, c4, h0, h1.short s1.2, h2.short s2.2, h3.short s3.2, h4.lns s5.2, s0, s4⟩
def SzP (p : Prg) (e : Ending) : Prop := e = .returned (.int .i64 (-1)) ∨ (∃ r : Nat, e = .returned (.int .i64 r) ∧ PShort p)
theorem l_szProgram (v : Value) (p : Prg) (w : World) (hp : PgO w v p) :
    Calls Tryd.prog 24 #[v, .int .i64 1048576] w fun e w' => SzP p e ∧ Later w w' := by
  obtain ⟨a1, c1, a2, c2, a3, c3, a4, c4, rfl, h1, h2, h3, h4, h5, h6⟩ := hp
  have P1 := Lib.hid h1; have P2 := Lib.hid h2; have P3 := Lib.hid h3; have P4 := Lib.hid h4
  have hz0 : (tx p.nm).size = p.nm.length := rfl
  have hz4 : (tx p.grd).size = p.grd.length := rfl
  unfold maxLen at h5 h6
  have HSP : Hid (∀ r : Nat, p.nm.length ≤ 1048576 → (p.ins.length ≤ 1048576 ∧ ∀ j, j < p.ins.length → (wx p.ins j).length ≤ 1048576) → (p.vrs.length ≤ 1048576 ∧ ∀ j, j < p.vrs.length → (wx p.vrs j).length ≤ 1048576) → (p.outs.length ≤ 1048576 ∧ ∀ j, j < p.outs.length → (wx p.outs j).length ≤ 1048576) → p.grd.length ≤ 1048576 → (p.lns.length ≤ 1048576 ∧ ∀ j, j < p.lns.length → LShort p.lns j) → SzP p (.returned (.int .i64 r))) := Lib.hid (fun r a b c d e f => .inr ⟨r, rfl, a, b, c, d, e, f⟩)
  have HSM : Hid (SzP p (.returned (.int .i64 (-1)))) := Lib.hid (.inl rfl)
  clear h1 h2 h3 h4
  generalize SzP p = R at HSP HSM ⊢
  obtain ⟨l0, hl0⟩ : ∃ q, q = p.nm.length := ⟨_, rfl⟩
  obtain ⟨l4, hl4⟩ : ∃ q, q = p.grd.length := ⟨_, rfl⟩
  obtain ⟨s0, hs0⟩ : ∃ q, q = tx p.nm := ⟨_, rfl⟩
  obtain ⟨s4, hs4⟩ : ∃ q, q = tx p.grd := ⟨_, rfl⟩
  obtain ⟨n1, hn1⟩ : ∃ q, q = p.ins.length := ⟨_, rfl⟩
  obtain ⟨n2, hn2⟩ : ∃ q, q = p.vrs.length := ⟨_, rfl⟩
  obtain ⟨n3, hn3⟩ : ∃ q, q = p.outs.length := ⟨_, rfl⟩
  obtain ⟨n4, hn4⟩ : ∃ q, q = p.lns.length := ⟨_, rfl⟩
  rw [← hl0] at hz0 HSP h5; rw [← hl4] at hz4 HSP h6
  rw [← hs0] at hz0; rw [← hs4] at hz4
  rw [← hn1] at P1 HSP; rw [← hn2] at P2 HSP; rw [← hn3] at P3 HSP; rw [← hn4] at P4 HSP
  rw [← hs0, ← hs4, ← hn1, ← hn2, ← hn3, ← hn4]
  clear hl0 hl4 hs0 hs4 hn1 hn2 hn3 hn4
  have q0 : (w.alloc (.cells #[.string s0, .slice a1 n1 c1, .slice a2 n2 c2, .slice a3 n3 c3, .string s4, .slice a4 n4 c4] 41)).cell? ⟨w.heap.size, 0, none⟩ = some (.string s0) := by rw [cell_of_row _ _ 0 _ _ (0, 0) (heap_alloc_new w _)]; rfl
  have q1 : (w.alloc (.cells #[.string s0, .slice a1 n1 c1, .slice a2 n2 c2, .slice a3 n3 c3, .string s4, .slice a4 n4 c4] 41)).cell? ⟨w.heap.size, 1, none⟩ = some (.slice a1 n1 c1) := by rw [cell_of_row _ _ 1 _ _ (0, 0) (heap_alloc_new w _)]; rfl
  have q2 : (w.alloc (.cells #[.string s0, .slice a1 n1 c1, .slice a2 n2 c2, .slice a3 n3 c3, .string s4, .slice a4 n4 c4] 41)).cell? ⟨w.heap.size, 2, none⟩ = some (.slice a2 n2 c2) := by rw [cell_of_row _ _ 2 _ _ (0, 0) (heap_alloc_new w _)]; rfl
  have q3 : (w.alloc (.cells #[.string s0, .slice a1 n1 c1, .slice a2 n2 c2, .slice a3 n3 c3, .string s4, .slice a4 n4 c4] 41)).cell? ⟨w.heap.size, 3, none⟩ = some (.slice a3 n3 c3) := by rw [cell_of_row _ _ 3 _ _ (0, 0) (heap_alloc_new w _)]; rfl
  have q4 : (w.alloc (.cells #[.string s0, .slice a1 n1 c1, .slice a2 n2 c2, .slice a3 n3 c3, .string s4, .slice a4 n4 c4] 41)).cell? ⟨w.heap.size, 4, none⟩ = some (.string s4) := by rw [cell_of_row _ _ 4 _ _ (0, 0) (heap_alloc_new w _)]; rfl
  have q5 : (w.alloc (.cells #[.string s0, .slice a1 n1 c1, .slice a2 n2 c2, .slice a3 n3 c3, .string s4, .slice a4 n4 c4] 41)).cell? ⟨w.heap.size, 5, none⟩ = some (.slice a4 n4 c4) := by rw [cell_of_row _ _ 5 _ _ (0, 0) (heap_alloc_new w _)]; rfl
  have hW0 : w.heap.size < (w.alloc (.cells #[.string s0, .slice a1 n1 c1, .slice a2 n2 c2, .slice a3 n3 c3, .string s4, .slice a4 n4 c4] 41)).heap.size := by rw [World.size_alloc]; exact Nat.lt_succ_self _
  have C0 : Hid (∀ W', Later (w.alloc (.cells #[.string s0, .slice a1 n1 c1, .slice a2 n2 c2, .slice a3 n3 c3, .string s4, .slice a4 n4 c4] 41)) W' → W'.cell? ⟨w.heap.size, 0, none⟩ = some (.string s0) ∧ W'.cell? ⟨w.heap.size, 1, none⟩ = some (.slice a1 n1 c1) ∧ W'.cell? ⟨w.heap.size, 2, none⟩ = some (.slice a2 n2 c2) ∧ W'.cell? ⟨w.heap.size, 3, none⟩ = some (.slice a3 n3 c3) ∧ W'.cell? ⟨w.heap.size, 4, none⟩ = some (.string s4) ∧ W'.cell? ⟨w.heap.size, 5, none⟩ = some (.slice a4 n4 c4)) := Lib.hid (fun W' q => ⟨by rw [q.cell (p := ⟨w.heap.size, 0, none⟩) hW0]; exact q0, by rw [q.cell (p := ⟨w.heap.size, 1, none⟩) hW0]; exact q1, by rw [q.cell (p := ⟨w.heap.size, 2, none⟩) hW0]; exact q2, by rw [q.cell (p := ⟨w.heap.size, 3, none⟩) hW0]; exact q3, by rw [q.cell (p := ⟨w.heap.size, 4, none⟩) hW0]; exact q4, by rw [q.cell (p := ⟨w.heap.size, 5, none⟩) hW0]; exact q5⟩)
  have A0 : Hid (Later w (w.alloc (.cells #[.string s0, .slice a1 n1 c1, .slice a2 n2 c2, .slice a3 n3 c3, .string s4, .slice a4 n4 c4] 41))) := Lib.hid ((Later.refl _).alloc _)
  clear hW0
  by_cases hle : l0 ≤ 1048576
  · have e1 : IntKind.i64.wrap ((1048576 : Int) - (s0.size : Int)) = ((1048576 - l0 : Nat) : Int) := by rw [hz0, show (1048576 : Int) - (l0 : Int) = ((1048576 - l0 : Nat) : Int) by omega]; exact IntWalk.i64_in _ (by omega)
    obtain ⟨r, hr⟩ : ∃ r, r = 1048576 - l0 := ⟨_, rfl⟩
    rw [← hr] at e1
    have hr2 : r ≤ 1048576 := by omega
    have HL0 := Lib.hid hle
    clear hr hz0 hle h5
    go_enter Tryd.func24, Tryd.ntmps24
    go_wp2_with fail
    generalize w.alloc (.cells #[.string s0, .slice a1 n1 c1, .slice a2 n2 c2, .slice a3 n3 c3, .string s4, .slice a4 n4 c4] 41) = W0 at C0 A0 q0 q1 q2 q3 q4 q5 ⊢
    have B0 := Lib.hid (Later.refl W0)
    refine (l_szStringS a1 n1 c1 p.ins r _ hr2 (P1.out.later (Later.trans A0.out B0.out))).mono ?_
    clear q0 q1 q2 q3 q4 q5
    rintro e w1 ⟨rfl | ⟨r1, rfl, hr1, hm1, hj1⟩, hb⟩
    · have B1 := Lib.hid (Later.trans B0.out hb)
      obtain ⟨q0, q1, q2, q3, q4, q5⟩ := C0.out _ B1.out
      clear hb
      go_wp2_with fail
      go_ret
      exact ⟨HSM.out, Later.trans A0.out B1.out⟩
    have B1 := Lib.hid (Later.trans B0.out hb)
    obtain ⟨q0, q1, q2, q3, q4, q5⟩ := C0.out _ B1.out
    have S1 := Lib.hid (And.intro hm1 hj1)
    clear hb hm1 hj1
    go_wp2_with fail
    refine (l_szStringS a2 n2 c2 p.vrs r1 _ hr1 (P2.out.later (Later.trans A0.out B1.out))).mono ?_
    clear q0 q1 q2 q3 q4 q5
    rintro e w2 ⟨rfl | ⟨r2, rfl, hr2', hm2, hj2⟩, hb⟩
    · have B2 := Lib.hid (Later.trans B1.out hb)
      obtain ⟨q0, q1, q2, q3, q4, q5⟩ := C0.out _ B2.out
      clear hb
      go_wp2_with fail
      go_ret
      exact ⟨HSM.out, Later.trans A0.out B2.out⟩
    have B2 := Lib.hid (Later.trans B1.out hb)
    obtain ⟨q0, q1, q2, q3, q4, q5⟩ := C0.out _ B2.out
    have S2 := Lib.hid (And.intro hm2 hj2)
    clear hb hm2 hj2
    go_wp2_with fail
    refine (l_szStringS a3 n3 c3 p.outs r2 _ hr2' (P3.out.later (Later.trans A0.out B2.out))).mono ?_
    clear q0 q1 q2 q3 q4 q5
    rintro e w3 ⟨rfl | ⟨r3, rfl, hr3, hm3, hj3⟩, hb⟩
    · have B3 := Lib.hid (Later.trans B2.out hb)
      obtain ⟨q0, q1, q2, q3, q4, q5⟩ := C0.out _ B3.out
      clear hb
      go_wp2_with fail
      go_ret
      exact ⟨HSM.out, Later.trans A0.out B3.out⟩
    have B3 := Lib.hid (Later.trans B2.out hb)
    obtain ⟨q0, q1, q2, q3, q4, q5⟩ := C0.out _ B3.out
    have S3 := Lib.hid (And.intro hm3 hj3)
    clear hb hm3 hj3
    by_cases hle4 : l4 ≤ r3
    · have e2 : IntKind.i64.wrap ((r3 : Int) - (s4.size : Int)) = ((r3 - l4 : Nat) : Int) := by rw [hz4, show (r3 : Int) - (l4 : Int) = ((r3 - l4 : Nat) : Int) by omega]; exact IntWalk.i64_in _ (by omega)
      obtain ⟨ra, hra⟩ : ∃ r, r = r3 - l4 := ⟨_, rfl⟩
      rw [← hra] at e2
      have hra2 : ra ≤ 1048576 := by omega
      have HL4 : Hid (l4 ≤ 1048576) := Lib.hid (by omega)
      clear hra hz4 hle4 h6
      go_wp2_with fail
      refine (l_szLineS a4 n4 c4 p.lns ra _ hra2 (P4.out.later (Later.trans A0.out B3.out))).mono ?_
      clear q0 q1 q2 q3 q4 q5
      rintro e w4 ⟨rfl | ⟨r4, rfl, hr4, hm4, hj4⟩, hb⟩
      · have B4 := Lib.hid (Later.trans B3.out hb)
        obtain ⟨q0, q1, q2, q3, q4, q5⟩ := C0.out _ B4.out
        clear hb
        go_wp2_with fail
        go_ret
        exact ⟨HSM.out, Later.trans A0.out B4.out⟩
      have B4 := Lib.hid (Later.trans B3.out hb)
      obtain ⟨q0, q1, q2, q3, q4, q5⟩ := C0.out _ B4.out
      have S4 := Lib.hid (And.intro hm4 hj4)
      clear hb hm4 hj4
      go_wp2_with fail
      go_ret
      exact ⟨HSP.out _ HL0.out S1.out S2.out S3.out HL4.out S4.out, Later.trans A0.out B4.out⟩
    · have e2 : IntKind.i64.wrap ((r3 : Int) - (s4.size : Int)) = -((l4 - r3 : Nat) : Int) := by rw [hz4, show (r3 : Int) - (l4 : Int) = -((l4 - r3 : Nat) : Int) by omega]; exact IntWalk.i64_in _ (by omega)
      obtain ⟨ra, hra⟩ : ∃ r, r = l4 - r3 := ⟨_, rfl⟩
      rw [← hra] at e2
      have hr3' : decide (-(ra : Int) < 0) = true := by simp; omega
      have hr4' : -(ra : Int) < 0 := by omega
      clear hra hz4 hle4 h6
      go_wp2_with fail
      go_ret
      exact ⟨HSM.out, Later.trans A0.out B3.out⟩
  · have e1 : IntKind.i64.wrap ((1048576 : Int) - (s0.size : Int)) = -((l0 - 1048576 : Nat) : Int) := by rw [hz0, show (1048576 : Int) - (l0 : Int) = -((l0 - 1048576 : Nat) : Int) by omega]; exact IntWalk.i64_in _ (by omega)
    obtain ⟨r, hr⟩ : ∃ r, r = l0 - 1048576 := ⟨_, rfl⟩
    rw [← hr] at e1
    have hr3 : decide (-(r : Int) < 0) = true := by simp; omega
    have hr4 : -(r : Int) < 0 := by omega
    clear hr hz0 hle h5
    go_enter Tryd.func24, Tryd.ntmps24
    go_wp2_with fail
    go_ret
    exact ⟨HSM.out, A0.out⟩
end Go.Proofs.YtokipobjpinhmaaDoor
