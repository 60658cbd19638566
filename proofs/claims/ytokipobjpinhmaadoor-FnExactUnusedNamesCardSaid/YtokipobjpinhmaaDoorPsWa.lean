/- The laws' helpers on programs: copies of whole programs. -/
import Derived.Test.YtokipobjpinhmaaDoorPsz
namespace Go.Proofs.YtokipobjpinhmaaDoor
open Go.RowKit Go.Shelf
set_option maxHeartbeats 8000000
set_option maxRecDepth 100000
set_option linter.unusedVariables false
set_option linter.unusedSimpArgs false
/-- 'v reads as p, and all that it leads to lies in blocks from base on that may be written' -/
def PgC (base : Nat) (w : World) (v : Value) (p : Prg) : Prop :=
  ∃ g1 g2 g3 g4, v = .agg #[.string (tx p.nm), .slice (some ⟨g1, 0, none⟩) p.ins.length p.ins.length, .slice (some ⟨g2, 0, none⟩) p.vrs.length p.vrs.length, .slice (some ⟨g3, 0, none⟩) p.outs.length p.outs.length, .string (tx p.grd), .slice (some ⟨g4, 0, none⟩) p.lns.length p.lns.length] ∧
    (base ≤ g1 ∧ base ≤ g2 ∧ base ≤ g3 ∧ g1 < g4 ∧ g2 < g4 ∧ g3 < g4) ∧ Stw w g1 p.ins.length p.ins ∧ Stw w g2 p.vrs.length p.vrs ∧ Stw w g3 p.outs.length p.outs ∧ Lnw base w g4 p.lns.length p.lns ∧ p.nm.length ≤ 1048576 ∧ p.grd.length ≤ 1048576
theorem PgC.pgv {base : Nat} {w : World} {v : Value} {p : Prg} (h : PgC base w v p) : PgV w v p := by
  obtain ⟨g1, g2, g3, g4, e, _, h1, h2, h3, h4, h5, h6⟩ := h
  exact ⟨_, _, _, _, _, _, _, _, e, h1.1, h2.1, h3.1, h4.1.lns, h5, h6⟩
theorem PgC.later {base : Nat} {w w' : World} {v : Value} {p : Prg} (h : PgC base w v p) (hb : Later w w') : PgC base w' v p := by
  obtain ⟨g1, g2, g3, g4, e, hg, h1, h2, h3, h4, h5, h6⟩ := h
  exact ⟨g1, g2, g3, g4, e, hg, h1.later hb, h2.later hb, h3.later hb, h4.later hb, h5, h6⟩
/-- a copy of a program -/
def CopiedP (w : World) (p : Prg) (e : Ending) (w' : World) : Prop := ∃ v, e = .returned v ∧ PgV w' v p ∧ Later w w'
def CopiedC (w : World) (p : Prg) (e : Ending) (w' : World) : Prop := ∃ v, e = .returned v ∧ PgC w.heap.size w' v p ∧ Later w w'
theorem l_toProgramC (v : Value) (p : Prg) (w : World) (hp : PgV w v p) (hs : PShort p) : Calls Tryd.prog 25 #[v] w (CopiedC w p) := by
  obtain ⟨a1, c1, a2, c2, a3, c3, a4, c4, rfl, h1, h2, h3, h4, h5, h6⟩ := hp
  have P1 := Lib.hid h1; have P2 := Lib.hid h2; have P3 := Lib.hid h3; have P4 := Lib.hid h4
  have m1 := hs.2.1.1; have m2 := hs.2.2.1.1; have m3 := hs.2.2.2.1.1; have m4 := hs.2.2.2.2.2.1
  clear h1 h2 h3 h4 hs
  have HC : Hid (∀ s0 s4 n1 n2 n3 n4, s0 = tx p.nm → s4 = tx p.grd → n1 = p.ins.length → n2 = p.vrs.length → n3 = p.outs.length → n4 = p.lns.length → ∀ e w', (∃ g1 g2 g3 g4, e = .returned (.agg #[.string s0, .slice (some ⟨g1, 0, none⟩) n1 n1, .slice (some ⟨g2, 0, none⟩) n2 n2, .slice (some ⟨g3, 0, none⟩) n3 n3, .string s4, .slice (some ⟨g4, 0, none⟩) n4 n4]) ∧ (w.heap.size ≤ g1 ∧ w.heap.size ≤ g2 ∧ w.heap.size ≤ g3 ∧ g1 < g4 ∧ g2 < g4 ∧ g3 < g4) ∧ Stw w' g1 n1 p.ins ∧ Stw w' g2 n2 p.vrs ∧ Stw w' g3 n3 p.outs ∧ Lnw w.heap.size w' g4 n4 p.lns ∧ Later w w') → CopiedC w p e w') := Lib.hid (by
    rintro s0 s4 n1 n2 n3 n4 rfl rfl rfl rfl rfl rfl e w' ⟨g1, g2, g3, g4, rfl, x0, x1, x2, x3, x4, hl⟩
    exact ⟨_, rfl, ⟨g1, g2, g3, g4, rfl, x0, x1, x2, x3, x4, h5, h6⟩, hl⟩)
  clear h5 h6
  obtain ⟨s0, hs0⟩ : ∃ q, q = tx p.nm := ⟨_, rfl⟩
  obtain ⟨s4, hs4⟩ : ∃ q, q = tx p.grd := ⟨_, rfl⟩
  obtain ⟨n1, hn1⟩ : ∃ q, q = p.ins.length := ⟨_, rfl⟩
  obtain ⟨n2, hn2⟩ : ∃ q, q = p.vrs.length := ⟨_, rfl⟩
  obtain ⟨n3, hn3⟩ : ∃ q, q = p.outs.length := ⟨_, rfl⟩
  obtain ⟨n4, hn4⟩ : ∃ q, q = p.lns.length := ⟨_, rfl⟩
  have HC := Lib.hid (HC.out s0 s4 n1 n2 n3 n4 hs0 hs4 hn1 hn2 hn3 hn4)
  rw [← hn1] at P1 m1; rw [← hn2] at P2 m2; rw [← hn3] at P3 m3; rw [← hn4] at P4 m4
  rw [← hs0, ← hs4, ← hn1, ← hn2, ← hn3, ← hn4]
  clear hs0 hs4 hn1 hn2 hn3 hn4
  have f0 : Fr (w.heap.size) [.string s0, .slice a1 n1 c1, .slice a2 n2 c2, .slice a3 n3 c3, .string s4, .slice a4 n4 c4] (w.alloc (.cells #[.string s0, .slice a1 n1 c1, .slice a2 n2 c2, .slice a3 n3 c3, .string s4, .slice a4 n4 c4] 41)) := frP_new w [.string s0, .slice a1 n1 c1, .slice a2 n2 c2, .slice a3 n3 c3, .string s4, .slice a4 n4 c4] _
  have f1 : Fr (w.heap.size + 1) [.string ⟨#[]⟩, .slice none 0 0, .slice none 0 0, .slice none 0 0, .string ⟨#[]⟩, .slice none 0 0] ((w.alloc (.cells #[.string s0, .slice a1 n1 c1, .slice a2 n2 c2, .slice a3 n3 c3, .string s4, .slice a4 n4 c4] 41)).alloc (.cells #[.string ⟨#[]⟩, .slice none 0 0, .slice none 0 0, .slice none 0 0, .string ⟨#[]⟩, .slice none 0 0] 27)) := by have h := frP_new (w.alloc (.cells #[.string s0, .slice a1 n1 c1, .slice a2 n2 c2, .slice a3 n3 c3, .string s4, .slice a4 n4 c4] 41)) [.string ⟨#[]⟩, .slice none 0 0, .slice none 0 0, .slice none 0 0, .string ⟨#[]⟩, .slice none 0 0] 27; rwa [World.size_alloc] at h
  have f2 : Fr (w.heap.size + 1 + 1) [.string s0, .slice none 0 0, .slice none 0 0, .slice none 0 0, .string ⟨#[]⟩, .slice none 0 0] (((w.alloc (.cells #[.string s0, .slice a1 n1 c1, .slice a2 n2 c2, .slice a3 n3 c3, .string s4, .slice a4 n4 c4] 41)).alloc (.cells #[.string ⟨#[]⟩, .slice none 0 0, .slice none 0 0, .slice none 0 0, .string ⟨#[]⟩, .slice none 0 0] 27)).alloc (.cells #[.string s0, .slice none 0 0, .slice none 0 0, .slice none 0 0, .string ⟨#[]⟩, .slice none 0 0] 27)) := by have h := frP_new ((w.alloc (.cells #[.string s0, .slice a1 n1 c1, .slice a2 n2 c2, .slice a3 n3 c3, .string s4, .slice a4 n4 c4] 41)).alloc (.cells #[.string ⟨#[]⟩, .slice none 0 0, .slice none 0 0, .slice none 0 0, .string ⟨#[]⟩, .slice none 0 0] 27)) [.string s0, .slice none 0 0, .slice none 0 0, .slice none 0 0, .string ⟨#[]⟩, .slice none 0 0] 27; rwa [World.size_alloc, World.size_alloc] at h
  have l1 : Later (w.alloc (.cells #[.string s0, .slice a1 n1 c1, .slice a2 n2 c2, .slice a3 n3 c3, .string s4, .slice a4 n4 c4] 41)) (((w.alloc (.cells #[.string s0, .slice a1 n1 c1, .slice a2 n2 c2, .slice a3 n3 c3, .string s4, .slice a4 n4 c4] 41)).alloc (.cells #[.string ⟨#[]⟩, .slice none 0 0, .slice none 0 0, .slice none 0 0, .string ⟨#[]⟩, .slice none 0 0] 27)).alloc (.cells #[.string s0, .slice none 0 0, .slice none 0 0, .slice none 0 0, .string ⟨#[]⟩, .slice none 0 0] 27)) := ((Later.refl _).alloc _).alloc _
  have l2 : Later ((w.alloc (.cells #[.string s0, .slice a1 n1 c1, .slice a2 n2 c2, .slice a3 n3 c3, .string s4, .slice a4 n4 c4] 41)).alloc (.cells #[.string ⟨#[]⟩, .slice none 0 0, .slice none 0 0, .slice none 0 0, .string ⟨#[]⟩, .slice none 0 0] 27)) (((w.alloc (.cells #[.string s0, .slice a1 n1 c1, .slice a2 n2 c2, .slice a3 n3 c3, .string s4, .slice a4 n4 c4] 41)).alloc (.cells #[.string ⟨#[]⟩, .slice none 0 0, .slice none 0 0, .slice none 0 0, .string ⟨#[]⟩, .slice none 0 0] 27)).alloc (.cells #[.string s0, .slice none 0 0, .slice none 0 0, .slice none 0 0, .string ⟨#[]⟩, .slice none 0 0] 27)) := (Later.refl _).alloc _
  have l3 : Later w (((w.alloc (.cells #[.string s0, .slice a1 n1 c1, .slice a2 n2 c2, .slice a3 n3 c3, .string s4, .slice a4 n4 c4] 41)).alloc (.cells #[.string ⟨#[]⟩, .slice none 0 0, .slice none 0 0, .slice none 0 0, .string ⟨#[]⟩, .slice none 0 0] 27)).alloc (.cells #[.string s0, .slice none 0 0, .slice none 0 0, .slice none 0 0, .string ⟨#[]⟩, .slice none 0 0] 27)) := (((Later.refl _).alloc _).alloc _).alloc _
  have F0 := Lib.hid (fr_later f0 l1)
  have F1 := Lib.hid (fr_later f1 l2)
  have F2 := Lib.hid f2
  have HL := Lib.hid l3
  clear f0 f1 f2 l1 l2 l3
  go_enter Tryd.func25, Tryd.ntmps25
  go_wp2_with fail
  refine calls_into (S := fun W => Fr (w.heap.size) [.string s0, .slice a1 n1 c1, .slice a2 n2 c2, .slice a3 n3 c3, .string s4, .slice a4 n4 c4] W ∧ Fr (w.heap.size + 1) [.string ⟨#[]⟩, .slice none 0 0, .slice none 0 0, .slice none 0 0, .string ⟨#[]⟩, .slice none 0 0] W ∧ Fr (w.heap.size + 1 + 1) [.string s0, .slice none 0 0, .slice none 0 0, .slice none 0 0, .string ⟨#[]⟩, .slice none 0 0] W ∧ Later w W) ⟨F0.out, F1.out, F2.out, HL.out⟩ ?_
  clear F0 F1 F2 HL
  rintro W0 ⟨f0, f1, f2, hl⟩
  refine (l_toStringS a1 n1 c1 p.ins _ (P1.out.later hl) m1).mono ?_
  rintro e v0 ⟨g1, rfl, hg1, hg2, ht, hb⟩
  have hz := f2.lt
  have G1 : w.heap.size + 1 + 1 + 1 ≤ g1 := by omega
  have l0 : Later w v0 := hl.trans hb
  have f0 := fr_later f0 hb
  have f1 := fr_later f1 hb
  have f2 := fr_later f2 hb
  have ka : KA (w.heap.size + 1 + 1 + 1) v0 (v0.setCell ⟨w.heap.size + 1 + 1, 1, none⟩ (.slice (some ⟨g1, 0, none⟩) n1 n1)) := (KA.refl _ _).set (p := ⟨w.heap.size + 1 + 1, 1, none⟩) (by simp) _
  have X1 := Lib.hid ((show Stw _ g1 n1 p.ins from ⟨ht, hg2⟩).ka ka G1)
  have F0 := Lib.hid (frP_far f0 (w.heap.size + 1 + 1) 1 (.slice (some ⟨g1, 0, none⟩) n1 n1) (by omega))
  have F1 := Lib.hid (frP_far f1 (w.heap.size + 1 + 1) 1 (.slice (some ⟨g1, 0, none⟩) n1 n1) (by omega))
  have F2 := Lib.hid (frP_set f2 1 (.slice (some ⟨g1, 0, none⟩) n1 n1) (by simp))
  have HL := Lib.hid (l0.setCell (p := ⟨w.heap.size + 1 + 1, 1, none⟩) (by simp; omega) (.slice (some ⟨g1, 0, none⟩) n1 n1))
  obtain ⟨q0, q1, q2, q3, q4, q5, _, _, _, _, _, _⟩ := f0.o6
  obtain ⟨o0, o1, o2, o3, o4, o5, z0, z1, z2, z3, z4, z5⟩ := f2.o6
  clear f0 f1 f2 hl hb ht ka hz hg1 hg2
  go_wp2_with fail
  clear q0 q1 q2 q3 q4 q5 o0 o1 o2 o3 o4 o5 z0 z1 z2 z3 z4 z5
  refine calls_into (S := fun W => Fr (w.heap.size) [.string s0, .slice a1 n1 c1, .slice a2 n2 c2, .slice a3 n3 c3, .string s4, .slice a4 n4 c4] W ∧ Fr (w.heap.size + 1) [.string ⟨#[]⟩, .slice none 0 0, .slice none 0 0, .slice none 0 0, .string ⟨#[]⟩, .slice none 0 0] W ∧ Fr (w.heap.size + 1 + 1) [.string s0, .slice (some ⟨g1, 0, none⟩) n1 n1, .slice none 0 0, .slice none 0 0, .string ⟨#[]⟩, .slice none 0 0] W ∧ Later w W ∧ Stw W g1 n1 p.ins) ⟨F0.out, F1.out, F2.out, HL.out, X1.out⟩ ?_
  clear F0 F1 F2 HL X1
  rintro W1 ⟨f0, f1, f2, hl, x1⟩
  refine (l_toStringS a2 n2 c2 p.vrs _ (P2.out.later hl) m2).mono ?_
  rintro e v1 ⟨g2, rfl, hg1, hg2, ht, hb⟩
  have hz := f2.lt
  have G2 : w.heap.size + 1 + 1 + 1 ≤ g2 := by omega
  have l1 : Later w v1 := hl.trans hb
  have f0 := fr_later f0 hb
  have f1 := fr_later f1 hb
  have f2 := fr_later f2 hb
  have x1 := x1.later hb
  have ka : KA (w.heap.size + 1 + 1 + 1) v1 (v1.setCell ⟨w.heap.size + 1 + 1, 2, none⟩ (.slice (some ⟨g2, 0, none⟩) n2 n2)) := (KA.refl _ _).set (p := ⟨w.heap.size + 1 + 1, 2, none⟩) (by simp) _
  have X1 := Lib.hid (x1.ka ka G1)
  have X2 := Lib.hid ((show Stw _ g2 n2 p.vrs from ⟨ht, hg2⟩).ka ka G2)
  have F0 := Lib.hid (frP_far f0 (w.heap.size + 1 + 1) 2 (.slice (some ⟨g2, 0, none⟩) n2 n2) (by omega))
  have F1 := Lib.hid (frP_far f1 (w.heap.size + 1 + 1) 2 (.slice (some ⟨g2, 0, none⟩) n2 n2) (by omega))
  have F2 := Lib.hid (frP_set f2 2 (.slice (some ⟨g2, 0, none⟩) n2 n2) (by simp))
  have HL := Lib.hid (l1.setCell (p := ⟨w.heap.size + 1 + 1, 2, none⟩) (by simp; omega) (.slice (some ⟨g2, 0, none⟩) n2 n2))
  obtain ⟨q0, q1, q2, q3, q4, q5, _, _, _, _, _, _⟩ := f0.o6
  obtain ⟨o0, o1, o2, o3, o4, o5, z0, z1, z2, z3, z4, z5⟩ := f2.o6
  clear f0 f1 f2 hl hb ht ka hz hg1 hg2 x1
  go_wp2_with fail
  clear q0 q1 q2 q3 q4 q5 o0 o1 o2 o3 o4 o5 z0 z1 z2 z3 z4 z5
  refine calls_into (S := fun W => Fr (w.heap.size) [.string s0, .slice a1 n1 c1, .slice a2 n2 c2, .slice a3 n3 c3, .string s4, .slice a4 n4 c4] W ∧ Fr (w.heap.size + 1) [.string ⟨#[]⟩, .slice none 0 0, .slice none 0 0, .slice none 0 0, .string ⟨#[]⟩, .slice none 0 0] W ∧ Fr (w.heap.size + 1 + 1) [.string s0, .slice (some ⟨g1, 0, none⟩) n1 n1, .slice (some ⟨g2, 0, none⟩) n2 n2, .slice none 0 0, .string ⟨#[]⟩, .slice none 0 0] W ∧ Later w W ∧ Stw W g1 n1 p.ins ∧ Stw W g2 n2 p.vrs) ⟨F0.out, F1.out, F2.out, HL.out, X1.out, X2.out⟩ ?_
  clear F0 F1 F2 HL X1 X2
  rintro W2 ⟨f0, f1, f2, hl, x1, x2⟩
  refine (l_toStringS a3 n3 c3 p.outs _ (P3.out.later hl) m3).mono ?_
  rintro e v2 ⟨g3, rfl, hg1, hg2, ht, hb⟩
  have hz := f2.lt
  have G3 : w.heap.size + 1 + 1 + 1 ≤ g3 := by omega
  have l2 : Later w v2 := hl.trans hb
  have f0 := fr_later f0 hb
  have f1 := fr_later f1 hb
  have f2 := fr_later f2 hb
  have x1 := x1.later hb
  have x2 := x2.later hb
  have ka : KA (w.heap.size + 1 + 1 + 1) v2 (v2.setCell ⟨w.heap.size + 1 + 1, 3, none⟩ (.slice (some ⟨g3, 0, none⟩) n3 n3)) := (KA.refl _ _).set (p := ⟨w.heap.size + 1 + 1, 3, none⟩) (by simp) _
  have X1 := Lib.hid (x1.ka ka G1)
  have X2 := Lib.hid (x2.ka ka G2)
  have X3 := Lib.hid ((show Stw _ g3 n3 p.outs from ⟨ht, hg2⟩).ka ka G3)
  have F0 := Lib.hid (frP_far f0 (w.heap.size + 1 + 1) 3 (.slice (some ⟨g3, 0, none⟩) n3 n3) (by omega))
  have F1 := Lib.hid (frP_far f1 (w.heap.size + 1 + 1) 3 (.slice (some ⟨g3, 0, none⟩) n3 n3) (by omega))
  have F2 := Lib.hid (frP_set f2 3 (.slice (some ⟨g3, 0, none⟩) n3 n3) (by simp))
  have HL := Lib.hid (l2.setCell (p := ⟨w.heap.size + 1 + 1, 3, none⟩) (by simp; omega) (.slice (some ⟨g3, 0, none⟩) n3 n3))
  obtain ⟨q0, q1, q2, q3, q4, q5, _, _, _, _, _, _⟩ := f0.o6
  obtain ⟨o0, o1, o2, o3, o4, o5, z0, z1, z2, z3, z4, z5⟩ := f2.o6
  clear f0 f1 f2 hl hb ht ka hz hg1 hg2 x1 x2
  go_wp2_with fail
  clear q0 q1 q2 q3 q4 q5 o0 o1 o2 o3 o4 o5 z0 z1 z2 z3 z4 z5
  have F0 := Lib.hid (frP_far F0.out (w.heap.size + 1 + 1) 4 (.string s4) (by omega))
  have F1 := Lib.hid (frP_far F1.out (w.heap.size + 1 + 1) 4 (.string s4) (by omega))
  have F2 := Lib.hid (frP_set F2.out 4 (.string s4) (by simp))
  have HL := Lib.hid (HL.out.setCell (p := ⟨w.heap.size + 1 + 1, 4, none⟩) (by simp; omega) (.string s4))
  have X1 := Lib.hid (X1.out.ka ((KA.refl (w.heap.size + 1 + 1 + 1) _).set (p := ⟨w.heap.size + 1 + 1, 4, none⟩) (by simp) (.string s4)) G1)
  have X2 := Lib.hid (X2.out.ka ((KA.refl (w.heap.size + 1 + 1 + 1) _).set (p := ⟨w.heap.size + 1 + 1, 4, none⟩) (by simp) (.string s4)) G2)
  have X3 := Lib.hid (X3.out.ka ((KA.refl (w.heap.size + 1 + 1 + 1) _).set (p := ⟨w.heap.size + 1 + 1, 4, none⟩) (by simp) (.string s4)) G3)
  refine calls_into (S := fun W => Fr (w.heap.size) [.string s0, .slice a1 n1 c1, .slice a2 n2 c2, .slice a3 n3 c3, .string s4, .slice a4 n4 c4] W ∧ Fr (w.heap.size + 1) [.string ⟨#[]⟩, .slice none 0 0, .slice none 0 0, .slice none 0 0, .string ⟨#[]⟩, .slice none 0 0] W ∧ Fr (w.heap.size + 1 + 1) [.string s0, .slice (some ⟨g1, 0, none⟩) n1 n1, .slice (some ⟨g2, 0, none⟩) n2 n2, .slice (some ⟨g3, 0, none⟩) n3 n3, .string s4, .slice none 0 0] W ∧ Later w W ∧ Stw W g1 n1 p.ins ∧ Stw W g2 n2 p.vrs ∧ Stw W g3 n3 p.outs) ⟨F0.out, F1.out, F2.out, HL.out, X1.out, X2.out, X3.out⟩ ?_
  clear F0 F1 F2 HL X1 X2 X3
  rintro W3 ⟨f0, f1, f2, hl, x1, x2, x3⟩
  refine (l_toLineS a4 n4 c4 p.lns _ (P4.out.later hl) m4).mono ?_
  rintro e v3 ⟨g4, rfl, hg1, hg2, ht, hb⟩
  have GS1 : g1 < g4 := Nat.lt_of_lt_of_le x1.2.1 hg1
  have GS2 : g2 < g4 := Nat.lt_of_lt_of_le x2.2.1 hg1
  have GS3 : g3 < g4 := Nat.lt_of_lt_of_le x3.2.1 hg1
  have hz := f2.lt
  have G4 : w.heap.size + 1 + 1 + 1 ≤ g4 := by omega
  have l3 : Later w v3 := hl.trans hb
  have f0 := fr_later f0 hb
  have f1 := fr_later f1 hb
  have f2 := fr_later f2 hb
  have x1 := x1.later hb
  have x2 := x2.later hb
  have x3 := x3.later hb
  have ka : KA (w.heap.size + 1 + 1 + 1) v3 (v3.setCell ⟨w.heap.size + 1 + 1, 5, none⟩ (.slice (some ⟨g4, 0, none⟩) n4 n4)) := (KA.refl _ _).set (p := ⟨w.heap.size + 1 + 1, 5, none⟩) (by simp) _
  have X1 := Lib.hid (x1.ka ka G1)
  have X2 := Lib.hid (x2.ka ka G2)
  have X3 := Lib.hid (x3.ka ka G3)
  have X4 := Lib.hid ((show Lnw _ _ g4 n4 p.lns from ⟨ht.mono (show w.heap.size + 1 + 1 + 1 ≤ _ by omega), G4, hg2⟩).ka ka)
  have F0 := Lib.hid (frP_far f0 (w.heap.size + 1 + 1) 5 (.slice (some ⟨g4, 0, none⟩) n4 n4) (by omega))
  have F1 := Lib.hid (frP_far f1 (w.heap.size + 1 + 1) 5 (.slice (some ⟨g4, 0, none⟩) n4 n4) (by omega))
  have F2 := Lib.hid (frP_set f2 5 (.slice (some ⟨g4, 0, none⟩) n4 n4) (by simp))
  have HL := Lib.hid (l3.setCell (p := ⟨w.heap.size + 1 + 1, 5, none⟩) (by simp; omega) (.slice (some ⟨g4, 0, none⟩) n4 n4))
  obtain ⟨q0, q1, q2, q3, q4, q5, _, _, _, _, _, _⟩ := f0.o6
  obtain ⟨o0, o1, o2, o3, o4, o5, z0, z1, z2, z3, z4, z5⟩ := f2.o6
  clear f0 f1 f2 hl hb ht ka hz hg1 hg2 x1 x2 x3
  go_upto_region 8 with (fail)
  clear q0 q1 q2 q3 q4 q5 o0 o1 o2 o3 o4 o5 z0 z1 z2 z3 z4 z5
  refine into (S := fun W => Fr (w.heap.size + 1) [.string ⟨#[]⟩, .slice none 0 0, .slice none 0 0, .slice none 0 0, .string ⟨#[]⟩, .slice none 0 0] W ∧ Fr (w.heap.size + 1 + 1) [.string s0, .slice (some ⟨g1, 0, none⟩) n1 n1, .slice (some ⟨g2, 0, none⟩) n2 n2, .slice (some ⟨g3, 0, none⟩) n3 n3, .string s4, .slice (some ⟨g4, 0, none⟩) n4 n4] W ∧ Later w W ∧ Stw W g1 n1 p.ins ∧ Stw W g2 n2 p.vrs ∧ Stw W g3 n3 p.outs ∧ Lnw (w.heap.size + 1 + 1 + 1) W g4 n4 p.lns) ⟨F1.out, F2.out, HL.out, X1.out, X2.out, X3.out, X4.out⟩ ?_
  clear F0 F1 F2 HL X1 X2 X3 X4
  rintro W4 ⟨f1, f2, hl, x1, x2, x3, x4⟩
  obtain ⟨r0, r1, r2, r3, r4, r5, y0, y1, y2, y3, y4, y5⟩ := f1.o6
  obtain ⟨o0, o1, o2, o3, o4, o5, z0, z1, z2, z3, z4, z5⟩ := f2.o6
  have X1 := Lib.hid x1; have X2 := Lib.hid x2; have X3 := Lib.hid x3; have X4 := Lib.hid x4; have HL := Lib.hid hl
  clear x1 x2 x3 x4 hl f1 f2
  go_wp2_with fail
  refine bodyPost_ret (v := .agg #[.string s0, .slice (some ⟨g1, 0, none⟩) n1 n1, .slice (some ⟨g2, 0, none⟩) n2 n2, .slice (some ⟨g3, 0, none⟩) n3 n3, .string s4, .slice (some ⟨g4, 0, none⟩) n4 n4]) (by simp [results, Tryd.results25, go_sem, *]) rfl (HC.out _ _ ⟨g1, g2, g3, g4, rfl, ⟨by omega, by omega, by omega, GS1, GS2, GS3⟩, ?_, ?_, ?_, ?_, ?_⟩)
  · exact X1.out.ka (base := w.heap.size + 1 + 1 + 1) (by repeat (first | (with_reducible exact KA.refl _ _) | (with_reducible refine KA.set ?_ (by simp; omega) _) | (with_reducible refine KA.set ?_ (by simp) _))) G1
  · exact X2.out.ka (base := w.heap.size + 1 + 1 + 1) (by repeat (first | (with_reducible exact KA.refl _ _) | (with_reducible refine KA.set ?_ (by simp; omega) _) | (with_reducible refine KA.set ?_ (by simp) _))) G2
  · exact X3.out.ka (base := w.heap.size + 1 + 1 + 1) (by repeat (first | (with_reducible exact KA.refl _ _) | (with_reducible refine KA.set ?_ (by simp; omega) _) | (with_reducible refine KA.set ?_ (by simp) _))) G3
  · exact (X4.out.ka (by repeat (first | (with_reducible exact KA.refl _ _) | (with_reducible refine KA.set ?_ (by simp; omega) _) | (with_reducible refine KA.set ?_ (by simp) _)))).mono (by omega)
  · exact (by repeat (first | (with_reducible exact HL.out) | (with_reducible refine Later.setCell ?_ (by simp; omega) _) | (with_reducible refine Later.setCell ?_ (by simp) _)))
theorem l_toProgram (v : Value) (p : Prg) (w : World) (hp : PgV w v p) (hs : PShort p) : Calls Tryd.prog 25 #[v] w (CopiedP w p) :=
  (l_toProgramC v p w hp hs).mono fun _ _ ⟨u, e, h, hb⟩ => ⟨u, e, h.pgv, hb⟩
end Go.Proofs.YtokipobjpinhmaaDoor
