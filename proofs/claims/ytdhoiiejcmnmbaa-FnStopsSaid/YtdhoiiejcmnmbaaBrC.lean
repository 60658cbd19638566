/- The drawn stops of chapter 7. -/
import Derived.Test.YtdhoiiejcmnmbaaBrD
namespace Go.Proofs.Ytdhoiiejcmnmbaa
open Go.RowKit
set_option maxHeartbeats 4000000
set_option linter.unusedVariables false
set_option linter.unusedSimpArgs false
/-- a drawn segment and an energy -/
def DrawnZE (w : World) (B : Nat) (a : Option Addr) (len cap : Nat) (e : Ending) (w' : World) : Prop :=
  ∃ (z : Sg) (x y : Int), e = .returned (.tuple #[.agg #[.int .i64 z.k, .int .i64 z.l, .int .i64 z.r, .int .i64 z.a, .int .i64 z.b, .int .i64 z.c, .int .i64 z.d], .agg #[.int .i64 x, .int .i64 y]]) ∧ Src w' B a len cap ∧ w.grownBy w' (some B)
theorem keepX {g : Nat} {v0 v1 v2 v3 v4 v5 v6 : Value} {B : Nat} {a : Option Addr} {len cap : Nat} {w w' : World} (h : DB [(g, [v0, v1, v2, v3, v4, v5, v6])] B a len cap w w') :
    w'.cell? ⟨g, 0, none⟩ = some v0 ∧ w'.cell? ⟨g, 1, none⟩ = some v1 ∧ w'.cell? ⟨g, 2, none⟩ = some v2 ∧ w'.cell? ⟨g, 3, none⟩ = some v3 ∧ w'.cell? ⟨g, 4, none⟩ = some v4 ∧ w'.cell? ⟨g, 5, none⟩ = some v5 ∧ w'.cell? ⟨g, 6, none⟩ = some v6 ∧ DB [(g, [v0, v1, v2, v3, v4, v5, v6])] B a len cap w w' := by
  obtain ⟨c0, c1, c2, c3, c4, c5, c6, _⟩ := Fr.o7 (h.fr g [v0, v1, v2, v3, v4, v5, v6] (by simp))
  exact ⟨c0, c1, c2, c3, c4, c5, c6, h⟩
theorem uv_bd (u v : Int) (h1 : 0 ≤ u) (h2 : u < 3) (h3 : 0 ≤ v) (h4 : v < 1000000) : 0 ≤ u * v ∧ u * v ≤ 2000000 :=
  ⟨Int.mul_nonneg h1 h3, by have := Int.mul_le_mul (show u ≤ 2 by omega) (show v ≤ 1000000 by omega) h3 (by omega); omega⟩
theorem setRes {X : Nat × List Value} {g0 : Nat} {r0 r1 r2 r3 r4 r5 r6 s0 s1 : Value} {B : Nat} {a : Option Addr} {len cap : Nat} {w0 W : World} (h : DB [X, (g0 + 1, [s0, s1]), (g0, [r0, r1, r2, r3, r4, r5, r6])] B a len cap w0 W) (u0 u1 u2 u3 u4 u5 u6 y0 y1 : Value) :
    DB [(g0 + 1, [y0, y1]), (g0, [u0, u1, u2, u3, u4, u5, u6])] B a len cap w0 (((((((((W.setCell ⟨g0, 0, none⟩ u0).setCell ⟨g0, 1, none⟩ u1).setCell ⟨g0, 2, none⟩ u2).setCell ⟨g0, 3, none⟩ u3).setCell ⟨g0, 4, none⟩ u4).setCell ⟨g0, 5, none⟩ u5).setCell ⟨g0, 6, none⟩ u6).setCell ⟨g0 + 1, 0, none⟩ y0).setCell ⟨g0 + 1, 1, none⟩ y1) := by
  obtain ⟨b1, f1⟩ := h.1 (g0 + 1, [s0, s1]) (by simp)
  obtain ⟨b0, f0⟩ := h.1 (g0, [r0, r1, r2, r3, r4, r5, r6]) (by simp)
  have n : ∀ x ∈ ([] : List (Nat × Nat × Value)), x.1 ≠ g0 + 1 := fun x hx => by simp at hx
  have k0 := fr_set (fr_set (fr_set (fr_set (fr_set (fr_set (fr_set f0 0 u0) 1 u1) 2 u2) 3 u3) 4 u4) 5 u5) 6 u6
  have d : ∀ j : Nat, ((⟨g0, j, none⟩ : Addr)).block ≠ g0 + 1 := fun j => by show g0 ≠ g0 + 1; omega
  have k1 := fr_far (fr_far (fr_far (fr_far (fr_far (fr_far (fr_far f1 _ u0 (d 0)) _ u1 (d 1)) _ u2 (d 2)) _ u3 (d 3)) _ u4 (d 4)) _ u5 (d 5)) _ u6 (d 6)
  have e : ∀ j : Nat, ((⟨g0 + 1, j, none⟩ : Addr)).block ≠ g0 := fun j => by show g0 + 1 ≠ g0; omega
  refine ⟨fun r hr => ?_, ((fin7 h.2 g0 b0 u0 u1 u2 u3 u4 u5 u6).set (g0 + 1) 0 y0 b1 n).set (g0 + 1) 1 y1 b1 n⟩
  rcases List.mem_cons.1 hr with rfl | hr
  · exact ⟨b1, fr_set (fr_set k1 0 y0) 1 y1⟩
  · rcases List.mem_cons.1 hr with rfl | hr
    · exact ⟨b0, fr_far (fr_far k0 _ y0 (e 0)) _ y1 (e 1)⟩
    · simp at hr
theorem DB.none {rs : List (Nat × List Value)} {B : Nat} {a : Option Addr} {len cap : Nat} {w0 W : World} (h : DB rs B a len cap w0 W) : DB [] B a len cap w0 W := ⟨fun r hr => by simp at hr, h.2⟩
set_option maxRecDepth 100000 in
theorem s_DrawStop (B : Nat) (a : Option Addr) (len cap : Nat) (w : World) (hs : Src w B a len cap) :
    Calls Try.prog 84 #[.pointer (some ⟨B, 0, none⟩)] w (DrawnZE w B a len cap) := by
  have t2 := (((DB.begin hs).box [.int .i64 0, .int .i64 0, .int .i64 0, .int .i64 0, .int .i64 0, .int .i64 0, .int .i64 0] 27 _ rfl).box [.int .i64 0, .int .i64 0] 25 _ rfl)
  simp only [World.size_alloc] at t2
  have T2 := Lib.hid t2
  clear hs t2
  go_enter Try.func84, Try.ntmps84
  go_wp2_with fail
  refine (s_DrawBrake B a len cap _ T2.out.src).mono ?_
  rintro e w1 ⟨z, rfl, src, gr⟩
  have T3 : Hid (DB [(w1.heap.size, [.int .i64 z.k, .int .i64 z.l, .int .i64 z.r, .int .i64 z.a, .int .i64 z.b, .int .i64 z.c, .int .i64 z.d]), (w.heap.size + 1, [.int .i64 0, .int .i64 0]), (w.heap.size, [.int .i64 0, .int .i64 0, .int .i64 0, .int .i64 0, .int .i64 0, .int .i64 0, .int .i64 0])] B a len cap w (w1.alloc (.cells #[.int .i64 z.k, .int .i64 z.l, .int .i64 z.r, .int .i64 z.a, .int .i64 z.b, .int .i64 z.c, .int .i64 z.d] 27))) := Lib.hid ((T2.out.call src gr).box [.int .i64 z.k, .int .i64 z.l, .int .i64 z.r, .int .i64 z.a, .int .i64 z.b, .int .i64 z.c, .int .i64 z.d] 27 _ rfl)
  have hz1 : w.heap.size + 1 < w1.heap.size := by have := gr.size; simp only [World.size_alloc] at this; omega
  have hx0 : ∀ r ∈ ([(w1.heap.size, [.int .i64 z.k, .int .i64 z.l, .int .i64 z.r, .int .i64 z.a, .int .i64 z.b, .int .i64 z.c, .int .i64 z.d])] : List (Nat × List Value)), r.1 ≠ w.heap.size := by intro r hr; simp at hr; subst hr; show w1.heap.size ≠ w.heap.size; omega
  have hx1 : ∀ r ∈ ([(w1.heap.size, [.int .i64 z.k, .int .i64 z.l, .int .i64 z.r, .int .i64 z.a, .int .i64 z.b, .int .i64 z.c, .int .i64 z.d])] : List (Nat × List Value)), r.1 ≠ w.heap.size + 1 := by intro r hr; simp at hr; subst hr; show w1.heap.size ≠ w.heap.size + 1; omega
  have n1 : ¬ w1.heap.size = w.heap.size := by omega
  have n2 : ¬ w.heap.size = w1.heap.size := by omega
  have n3 : ¬ w1.heap.size = w.heap.size + 1 := by omega
  have n4 : ¬ w.heap.size + 1 = w1.heap.size := by omega
  clear src gr T2
  go_wp2_with fail
  refine (s_IsSegment z _).mono ?_
  cases hsg : sgB z
  · rintro e w2 ⟨rfl, hb⟩
    have T4 := Lib.hid (T3.out.later hb)
    clear hb T3
    have hW : Hid (DB [(w1.heap.size, [.int .i64 z.k, .int .i64 z.l, .int .i64 z.r, .int .i64 z.a, .int .i64 z.b, .int .i64 z.c, .int .i64 z.d]), (w.heap.size + 1, [.int .i64 0, .int .i64 0]), (w.heap.size, [.int .i64 0, .int .i64 0, .int .i64 0, .int .i64 0, .int .i64 0, .int .i64 0, .int .i64 0])] B a len cap w _) := T4
    go_wp2_with fail
    refine into (fun W => DB [(w1.heap.size, [.int .i64 z.k, .int .i64 z.l, .int .i64 z.r, .int .i64 z.a, .int .i64 z.b, .int .i64 z.c, .int .i64 z.d]), (w.heap.size + 1, [.int .i64 0, .int .i64 0]), (w.heap.size, [.int .i64 0, .int .i64 0, .int .i64 0, .int .i64 0, .int .i64 0, .int .i64 0, .int .i64 0])] B a len cap w W) (by repeat (first | (with_reducible exact Hid.out (by assumption)) | (with_reducible refine DB.drew ?_) | (with_reducible refine DB.drewN ?_ _))) ?_
    intro W hw9
    have T9 := Lib.hid hw9
    have X9 : Hid (DB [(w1.heap.size, [.int .i64 z.k, .int .i64 z.l, .int .i64 z.r, .int .i64 z.a, .int .i64 z.b, .int .i64 z.c, .int .i64 z.d])] B a len cap w W) := Lib.hid ⟨fun r hr => hw9.1 r (by simp at hr ⊢; exact .inl hr), hw9.2⟩
    obtain ⟨r0, r1, r2, r3, r4, r5, r6, rf0, rf1, rf2, rf3, rf4, rf5, rf6⟩ := Fr.o7 (T9.out.fr w.heap.size [.int .i64 0, .int .i64 0, .int .i64 0, .int .i64 0, .int .i64 0, .int .i64 0, .int .i64 0] (by simp)); obtain ⟨s0, s1, sf0, sf1⟩ := Fr.o2 (T9.out.fr (w.heap.size + 1) [.int .i64 0, .int .i64 0] (by simp))
    clear hw9 hW
    go_region_held3 (fun w' => w'.cell? ⟨w1.heap.size, 0, none⟩ = some (.int .i64 z.k) ∧ w'.cell? ⟨w1.heap.size, 1, none⟩ = some (.int .i64 z.l) ∧ w'.cell? ⟨w1.heap.size, 2, none⟩ = some (.int .i64 z.r) ∧ w'.cell? ⟨w1.heap.size, 3, none⟩ = some (.int .i64 z.a) ∧ w'.cell? ⟨w1.heap.size, 4, none⟩ = some (.int .i64 z.b) ∧ w'.cell? ⟨w1.heap.size, 5, none⟩ = some (.int .i64 z.c) ∧ w'.cell? ⟨w1.heap.size, 6, none⟩ = some (.int .i64 z.d) ∧ DB [(w1.heap.size, [.int .i64 z.k, .int .i64 z.l, .int .i64 z.r, .int .i64 z.a, .int .i64 z.b, .int .i64 z.c, .int .i64 z.d])] B a len cap w w') ((refine keepX ?_; repeat (first | (with_reducible exact Hid.out (by assumption)) | (with_reducible refine DB.drew ?_) | (with_reducible refine DB.drewN ?_ _) | (with_reducible refine DB.far ?_ _ _ _ (by first | exact Nat.le_refl _ | exact Nat.le_succ _) (by first | exact hx0 | exact hx1)))))
      (first
        | (go_at_call 60; refine (s_l06Draw B a len cap _ (DB.src (show DB [(w1.heap.size, [.int .i64 z.k, .int .i64 z.l, .int .i64 z.r, .int .i64 z.a, .int .i64 z.b, .int .i64 z.c, .int .i64 z.d])] B a len cap w _ from (by repeat (first | (with_reducible exact Hid.out (by assumption)) | (with_reducible refine DB.drew ?_) | (with_reducible refine DB.drewN ?_ _) | (with_reducible refine DB.far ?_ _ _ _ (by first | exact Nat.le_refl _ | exact Nat.le_succ _) (by first | exact hx0 | exact hx1))))))).mono ?_; rintro e w8 ⟨x, y, rfl, px, py, src, gr⟩; have X8 : Hid (DB [(w1.heap.size, [.int .i64 z.k, .int .i64 z.l, .int .i64 z.r, .int .i64 z.a, .int .i64 z.b, .int .i64 z.c, .int .i64 z.d])] B a len cap w w8) := Lib.hid (DB.call (show DB [(w1.heap.size, [.int .i64 z.k, .int .i64 z.l, .int .i64 z.r, .int .i64 z.a, .int .i64 z.b, .int .i64 z.c, .int .i64 z.d])] B a len cap w _ from (by repeat (first | (with_reducible exact Hid.out (by assumption)) | (with_reducible refine DB.drew ?_) | (with_reducible refine DB.drewN ?_ _) | (with_reducible refine DB.far ?_ _ _ _ (by first | exact Nat.le_refl _ | exact Nat.le_succ _) (by first | exact hx0 | exact hx1))))) src gr); have T8 : Hid (DB [(w1.heap.size, [.int .i64 z.k, .int .i64 z.l, .int .i64 z.r, .int .i64 z.a, .int .i64 z.b, .int .i64 z.c, .int .i64 z.d]), (w.heap.size + 1, [.int .i64 0, .int .i64 0]), (w.heap.size, [.int .i64 0, .int .i64 0, .int .i64 0, .int .i64 0, .int .i64 0, .int .i64 0, .int .i64 0])] B a len cap w w8) := Lib.hid (DB.call (show DB [(w1.heap.size, [.int .i64 z.k, .int .i64 z.l, .int .i64 z.r, .int .i64 z.a, .int .i64 z.b, .int .i64 z.c, .int .i64 z.d]), (w.heap.size + 1, [.int .i64 0, .int .i64 0]), (w.heap.size, [.int .i64 0, .int .i64 0, .int .i64 0, .int .i64 0, .int .i64 0, .int .i64 0, .int .i64 0])] B a len cap w _ from (by repeat (first | (with_reducible exact Hid.out (by assumption)) | (with_reducible refine DB.drew ?_) | (with_reducible refine DB.drewN ?_ _)))) src gr); obtain ⟨r0, r1, r2, r3, r4, r5, r6, rf0, rf1, rf2, rf3, rf4, rf5, rf6⟩ := Fr.o7 (T8.out.fr w.heap.size [.int .i64 0, .int .i64 0, .int .i64 0, .int .i64 0, .int .i64 0, .int .i64 0, .int .i64 0] (by simp)); obtain ⟨s0, s1, sf0, sf1⟩ := Fr.o2 (T8.out.fr (w.heap.size + 1) [.int .i64 0, .int .i64 0] (by simp)); clear src gr))
    all_goals
      go_wp2_with fail
      refine bodyPost_ret (v := .tuple #[.agg #[.int .i64 z.k, .int .i64 z.l, .int .i64 z.r, .int .i64 z.a, .int .i64 z.b, .int .i64 z.c, .int .i64 z.d], .agg #[.int .i64 x, .int .i64 y]]) (by simp [results, Try.results84, go_sem, *]) rfl ⟨z, x, y, rfl, (by first | exact fin_st (((fin7 (DB.st T8.out) w.heap.size (Nat.le_refl _) _ _ _ _ _ _ _).set (w.heap.size + 1) 0 (.int .i64 x) (Nat.le_succ _) (fun x hx => by simp at hx)).set (w.heap.size + 1) 1 (.int .i64 y) (Nat.le_succ _) (fun x hx => by simp at hx)) | exact fin_st ((((fin7 (DB.st T8.out) w.heap.size (Nat.le_refl _) _ _ _ _ _ _ _).set (w.heap.size + 1) 0 (.int .i64 x) (Nat.le_succ _) (fun x hx => by simp at hx)).set (w.heap.size + 1) 1 (.int .i64 y) (Nat.le_succ _) (fun x hx => by simp at hx)).drew))⟩
  · rintro e w2 ⟨rfl, hb⟩
    have T4 := Lib.hid (T3.out.later hb)
    clear hb T3
    obtain ⟨x0, x1, x2, x3, x4, x5, x6, _⟩ := Fr.o7 (T4.out.fr w1.heap.size [.int .i64 z.k, .int .i64 z.l, .int .i64 z.r, .int .i64 z.a, .int .i64 z.b, .int .i64 z.c, .int .i64 z.d] (by simp))
    go_wp2_with fail
    cases hbk : brk z.k
    · refine (s_Brake z _ hbk _).mono ?_
      rintro e w3 ⟨rfl, hb⟩
      have T5 := Lib.hid (T4.out.later hb)
      clear hb T4 x0 x1 x2 x3 x4 x5 x6
      have hW : Hid (DB [(w1.heap.size, [.int .i64 z.k, .int .i64 z.l, .int .i64 z.r, .int .i64 z.a, .int .i64 z.b, .int .i64 z.c, .int .i64 z.d]), (w.heap.size + 1, [.int .i64 0, .int .i64 0]), (w.heap.size, [.int .i64 0, .int .i64 0, .int .i64 0, .int .i64 0, .int .i64 0, .int .i64 0, .int .i64 0])] B a len cap w _) := T5
      go_wp2_with fail
      refine into (fun W => DB [(w1.heap.size, [.int .i64 z.k, .int .i64 z.l, .int .i64 z.r, .int .i64 z.a, .int .i64 z.b, .int .i64 z.c, .int .i64 z.d]), (w.heap.size + 1, [.int .i64 0, .int .i64 0]), (w.heap.size, [.int .i64 0, .int .i64 0, .int .i64 0, .int .i64 0, .int .i64 0, .int .i64 0, .int .i64 0])] B a len cap w W) (by repeat (first | (with_reducible exact Hid.out (by assumption)) | (with_reducible refine DB.drew ?_) | (with_reducible refine DB.drewN ?_ _))) ?_
      intro W hw9
      have T9 := Lib.hid hw9
      have X9 : Hid (DB [(w1.heap.size, [.int .i64 z.k, .int .i64 z.l, .int .i64 z.r, .int .i64 z.a, .int .i64 z.b, .int .i64 z.c, .int .i64 z.d])] B a len cap w W) := Lib.hid ⟨fun r hr => hw9.1 r (by simp at hr ⊢; exact .inl hr), hw9.2⟩
      obtain ⟨r0, r1, r2, r3, r4, r5, r6, rf0, rf1, rf2, rf3, rf4, rf5, rf6⟩ := Fr.o7 (T9.out.fr w.heap.size [.int .i64 0, .int .i64 0, .int .i64 0, .int .i64 0, .int .i64 0, .int .i64 0, .int .i64 0] (by simp)); obtain ⟨s0, s1, sf0, sf1⟩ := Fr.o2 (T9.out.fr (w.heap.size + 1) [.int .i64 0, .int .i64 0] (by simp))
      clear hw9 hW
      go_region_held3 (fun w' => w'.cell? ⟨w1.heap.size, 0, none⟩ = some (.int .i64 z.k) ∧ w'.cell? ⟨w1.heap.size, 1, none⟩ = some (.int .i64 z.l) ∧ w'.cell? ⟨w1.heap.size, 2, none⟩ = some (.int .i64 z.r) ∧ w'.cell? ⟨w1.heap.size, 3, none⟩ = some (.int .i64 z.a) ∧ w'.cell? ⟨w1.heap.size, 4, none⟩ = some (.int .i64 z.b) ∧ w'.cell? ⟨w1.heap.size, 5, none⟩ = some (.int .i64 z.c) ∧ w'.cell? ⟨w1.heap.size, 6, none⟩ = some (.int .i64 z.d) ∧ DB [(w1.heap.size, [.int .i64 z.k, .int .i64 z.l, .int .i64 z.r, .int .i64 z.a, .int .i64 z.b, .int .i64 z.c, .int .i64 z.d])] B a len cap w w') ((refine keepX ?_; repeat (first | (with_reducible exact Hid.out (by assumption)) | (with_reducible refine DB.drew ?_) | (with_reducible refine DB.drewN ?_ _) | (with_reducible refine DB.far ?_ _ _ _ (by first | exact Nat.le_refl _ | exact Nat.le_succ _) (by first | exact hx0 | exact hx1)))))
        (first
          | (go_at_call 60; refine (s_l06Draw B a len cap _ (DB.src (show DB [(w1.heap.size, [.int .i64 z.k, .int .i64 z.l, .int .i64 z.r, .int .i64 z.a, .int .i64 z.b, .int .i64 z.c, .int .i64 z.d])] B a len cap w _ from (by repeat (first | (with_reducible exact Hid.out (by assumption)) | (with_reducible refine DB.drew ?_) | (with_reducible refine DB.drewN ?_ _) | (with_reducible refine DB.far ?_ _ _ _ (by first | exact Nat.le_refl _ | exact Nat.le_succ _) (by first | exact hx0 | exact hx1))))))).mono ?_; rintro e w8 ⟨x, y, rfl, px, py, src, gr⟩; have X8 : Hid (DB [(w1.heap.size, [.int .i64 z.k, .int .i64 z.l, .int .i64 z.r, .int .i64 z.a, .int .i64 z.b, .int .i64 z.c, .int .i64 z.d])] B a len cap w w8) := Lib.hid (DB.call (show DB [(w1.heap.size, [.int .i64 z.k, .int .i64 z.l, .int .i64 z.r, .int .i64 z.a, .int .i64 z.b, .int .i64 z.c, .int .i64 z.d])] B a len cap w _ from (by repeat (first | (with_reducible exact Hid.out (by assumption)) | (with_reducible refine DB.drew ?_) | (with_reducible refine DB.drewN ?_ _) | (with_reducible refine DB.far ?_ _ _ _ (by first | exact Nat.le_refl _ | exact Nat.le_succ _) (by first | exact hx0 | exact hx1))))) src gr); have T8 : Hid (DB [(w1.heap.size, [.int .i64 z.k, .int .i64 z.l, .int .i64 z.r, .int .i64 z.a, .int .i64 z.b, .int .i64 z.c, .int .i64 z.d]), (w.heap.size + 1, [.int .i64 0, .int .i64 0]), (w.heap.size, [.int .i64 0, .int .i64 0, .int .i64 0, .int .i64 0, .int .i64 0, .int .i64 0, .int .i64 0])] B a len cap w w8) := Lib.hid (DB.call (show DB [(w1.heap.size, [.int .i64 z.k, .int .i64 z.l, .int .i64 z.r, .int .i64 z.a, .int .i64 z.b, .int .i64 z.c, .int .i64 z.d]), (w.heap.size + 1, [.int .i64 0, .int .i64 0]), (w.heap.size, [.int .i64 0, .int .i64 0, .int .i64 0, .int .i64 0, .int .i64 0, .int .i64 0, .int .i64 0])] B a len cap w _ from (by repeat (first | (with_reducible exact Hid.out (by assumption)) | (with_reducible refine DB.drew ?_) | (with_reducible refine DB.drewN ?_ _)))) src gr); obtain ⟨r0, r1, r2, r3, r4, r5, r6, rf0, rf1, rf2, rf3, rf4, rf5, rf6⟩ := Fr.o7 (T8.out.fr w.heap.size [.int .i64 0, .int .i64 0, .int .i64 0, .int .i64 0, .int .i64 0, .int .i64 0, .int .i64 0] (by simp)); obtain ⟨s0, s1, sf0, sf1⟩ := Fr.o2 (T8.out.fr (w.heap.size + 1) [.int .i64 0, .int .i64 0] (by simp)); clear src gr))
      all_goals
        go_wp2_with fail
        refine bodyPost_ret (v := .tuple #[.agg #[.int .i64 z.k, .int .i64 z.l, .int .i64 z.r, .int .i64 z.a, .int .i64 z.b, .int .i64 z.c, .int .i64 z.d], .agg #[.int .i64 x, .int .i64 y]]) (by simp [results, Try.results84, go_sem, *]) rfl ⟨z, x, y, rfl, (by first | exact fin_st (((fin7 (DB.st T8.out) w.heap.size (Nat.le_refl _) _ _ _ _ _ _ _).set (w.heap.size + 1) 0 (.int .i64 x) (Nat.le_succ _) (fun x hx => by simp at hx)).set (w.heap.size + 1) 1 (.int .i64 y) (Nat.le_succ _) (fun x hx => by simp at hx)) | exact fin_st ((((fin7 (DB.st T8.out) w.heap.size (Nat.le_refl _) _ _ _ _ _ _ _).set (w.heap.size + 1) 0 (.int .i64 x) (Nat.le_succ _) (fun x hx => by simp at hx)).set (w.heap.size + 1) 1 (.int .i64 y) (Nat.le_succ _) (fun x hx => by simp at hx)).drew))⟩
    · refine (s_Brake z _ hbk _).mono ?_
      rintro e w3 ⟨rfl, hb⟩
      have T5 := Lib.hid (T4.out.later hb)
      clear hb T4 x0 x1 x2 x3 x4 x5 x6
      go_wp2_with fail
      refine (s_Next B a len cap 2 _ T5.out.src (by omega) (by omega)).mono ?_
      rintro e w4 ⟨c, rfl, v0, v1, v2, src, gr⟩
      have T6 := Lib.hid (T5.out.call src gr)
      clear src gr v1 v2 T5
      by_cases hc : c = 0
      · subst hc
        obtain ⟨x0, x1, x2, x3, x4, x5, x6, _⟩ := Fr.o7 (T6.out.fr w1.heap.size [.int .i64 z.k, .int .i64 z.l, .int .i64 z.r, .int .i64 z.a, .int .i64 z.b, .int .i64 z.c, .int .i64 z.d] (by simp))
        obtain ⟨wb1, wb2, wb3⟩ := wk_bd z hsg
        have HWK := s_Work z w4 hsg
        generalize wkL z = p at *
        generalize wkH z = q at *
        go_wp2_with fail
        refine HWK.mono ?_
        rintro e w5 ⟨rfl, hb⟩
        have T7 : Hid (DB [(w5.heap.size, [.int .i64 p, .int .i64 q]), (w1.heap.size, [.int .i64 z.k, .int .i64 z.l, .int .i64 z.r, .int .i64 z.a, .int .i64 z.b, .int .i64 z.c, .int .i64 z.d]), (w.heap.size + 1, [.int .i64 0, .int .i64 0]), (w.heap.size, [.int .i64 0, .int .i64 0, .int .i64 0, .int .i64 0, .int .i64 0, .int .i64 0, .int .i64 0])] B a len cap w (w5.alloc (.cells #[.int .i64 p, .int .i64 q] 25))) := Lib.hid ((T6.out.later hb).box [.int .i64 p, .int .i64 q] 25 _ rfl)
        clear hb x0 x1 x2 x3 x4 x5 x6 HWK T6
        go_upto_region 4 with fail
        go_cut [6] (fun s W => ∃ e9 : Int, s = .int .i64 e9 ∧ 0 ≤ e9 ∧ e9 ≤ 40000000000 ∧ DB [(w1.heap.size, [.int .i64 z.k, .int .i64 z.l, .int .i64 z.r, .int .i64 z.a, .int .i64 z.b, .int .i64 z.c, .int .i64 z.d]), (w.heap.size + 1, [.int .i64 0, .int .i64 0]), (w.heap.size, [.int .i64 0, .int .i64 0, .int .i64 0, .int .i64 0, .int .i64 0, .int .i64 0, .int .i64 0])] B a len cap w W)
        case first =>
          obtain ⟨g0, g1, _⟩ := Fr.o2 (T7.out.fr w5.heap.size [.int .i64 p, .int .i64 q] (by simp))
          have d1 := tdiv_bd p 2 20000000000 (by omega) (by omega)
          have k1 : IntKind.i64.wrap (p + 1) = p + 1 := IntWalk.i64_in _ ⟨by omega, by omega⟩
          have k2 : IntKind.i64.wrap (q + 1) = q + 1 := IntWalk.i64_in _ ⟨by omega, by omega⟩
          have k3 : IntKind.i64.wrap (p.tdiv 2) = p.tdiv 2 := IntWalk.i64_in _ ⟨by omega, by omega⟩
          have hlv := sl_new (w5.alloc (.cells #[.int .i64 p, .int .i64 q] 25)) [p, p + 1, q, q + 1, p.tdiv 2] 2 (by simp) (by intro x hx; simp at hx; unfold InR; omega)
          rw [World.size_alloc] at hlv
          have hBl := T7.out.src.lt
          rw [World.size_alloc] at hBl
          have hBw := T7.out.st.lt
          have hz5 : w.heap.size ≤ w5.heap.size := by have := T7.out.st.le; rw [World.size_alloc] at this; have := (T7.out.1 (w5.heap.size, [.int .i64 p, .int .i64 q]) (by simp)).1; exact this
          generalize hR : p.tdiv 2 = r2 at *
          go_wp2_with fail
          refine (s_Pick B a len cap ⟨w5.heap.size + 1, 0, none⟩ 5 5 _ _ (T7.out.src.alloc _) hlv (by show w5.heap.size + 1 ≠ B; omega) (by omega)).mono ?_
          rintro e w6 ⟨r, rfl, hr, src, gr⟩
          have T8 := Lib.hid (DB.fewer ((T7.out.later ((Later.refl _).alloc _)).call src gr))
          have hr1 : r ≤ 40000000000 := by simp at hr; omega
          have hr2 : -40000000000 ≤ r := by simp at hr; omega
          clear src gr hlv hr
          go_wp2_with fail
          all_goals
            go_meet
            exact ⟨_, rfl, by omega, by omega, T8.out⟩
        case rest =>
          obtain ⟨e9, rfl, hh0, hh1, hw9⟩ := hcut
          have T9 := Lib.hid hw9
          have X9 : Hid (DB [(w1.heap.size, [.int .i64 z.k, .int .i64 z.l, .int .i64 z.r, .int .i64 z.a, .int .i64 z.b, .int .i64 z.c, .int .i64 z.d])] B a len cap w wc) := Lib.hid ⟨fun r hr => hw9.1 r (by simp at hr ⊢; exact .inl hr), hw9.2⟩
          obtain ⟨r0, r1, r2, r3, r4, r5, r6, rf0, rf1, rf2, rf3, rf4, rf5, rf6⟩ := Fr.o7 (T9.out.fr w.heap.size [.int .i64 0, .int .i64 0, .int .i64 0, .int .i64 0, .int .i64 0, .int .i64 0, .int .i64 0] (by simp)); obtain ⟨s0, s1, sf0, sf1⟩ := Fr.o2 (T9.out.fr (w.heap.size + 1) [.int .i64 0, .int .i64 0] (by simp))
          clear hw9 T7
          have hfirst : True := trivial
          go_upto_region 5 with fail
          go_cut [] (fun W' => ∃ y0 : Int, DB [(w.heap.size + 1, [.int .i64 y0, .int .i64 e9]), (w.heap.size, [.int .i64 z.k, .int .i64 z.l, .int .i64 z.r, .int .i64 z.a, .int .i64 z.b, .int .i64 z.c, .int .i64 z.d])] B a len cap w W')
          case first =>
            go_region_held3 (fun w' => w'.cell? ⟨w1.heap.size, 0, none⟩ = some (.int .i64 z.k) ∧ w'.cell? ⟨w1.heap.size, 1, none⟩ = some (.int .i64 z.l) ∧ w'.cell? ⟨w1.heap.size, 2, none⟩ = some (.int .i64 z.r) ∧ w'.cell? ⟨w1.heap.size, 3, none⟩ = some (.int .i64 z.a) ∧ w'.cell? ⟨w1.heap.size, 4, none⟩ = some (.int .i64 z.b) ∧ w'.cell? ⟨w1.heap.size, 5, none⟩ = some (.int .i64 z.c) ∧ w'.cell? ⟨w1.heap.size, 6, none⟩ = some (.int .i64 z.d) ∧ DB [(w1.heap.size, [.int .i64 z.k, .int .i64 z.l, .int .i64 z.r, .int .i64 z.a, .int .i64 z.b, .int .i64 z.c, .int .i64 z.d])] B a len cap w w') ((refine keepX ?_; repeat (first | (with_reducible exact Hid.out (by assumption)) | (with_reducible refine DB.drew ?_) | (with_reducible refine DB.drewN ?_ _) | (with_reducible refine DB.far ?_ _ _ _ (by first | exact Nat.le_refl _ | exact Nat.le_succ _) (by first | exact hx0 | exact hx1)))))
              (first
                | (clear hfirst; go_at_call 58; refine (s_Next B a len cap _ _ (DB.src (show DB [(w1.heap.size, [.int .i64 z.k, .int .i64 z.l, .int .i64 z.r, .int .i64 z.a, .int .i64 z.b, .int .i64 z.c, .int .i64 z.d])] B a len cap w _ from (by repeat (first | (with_reducible exact Hid.out (by assumption)) | (with_reducible refine DB.drew ?_) | (with_reducible refine DB.drewN ?_ _) | (with_reducible refine DB.far ?_ _ _ _ (by first | exact Nat.le_refl _ | exact Nat.le_succ _) (by first | exact hx0 | exact hx1)))))) (by omega) (by omega)).mono ?_; rintro e w7 ⟨u, rfl, u0, u1, u2, src, gr⟩; have hu := u1 (by omega); have X7 : Hid (DB [(w1.heap.size, [.int .i64 z.k, .int .i64 z.l, .int .i64 z.r, .int .i64 z.a, .int .i64 z.b, .int .i64 z.c, .int .i64 z.d])] B a len cap w w7) := Lib.hid (DB.call (show DB [(w1.heap.size, [.int .i64 z.k, .int .i64 z.l, .int .i64 z.r, .int .i64 z.a, .int .i64 z.b, .int .i64 z.c, .int .i64 z.d])] B a len cap w _ from (by repeat (first | (with_reducible exact Hid.out (by assumption)) | (with_reducible refine DB.drew ?_) | (with_reducible refine DB.drewN ?_ _) | (with_reducible refine DB.far ?_ _ _ _ (by first | exact Nat.le_refl _ | exact Nat.le_succ _) (by first | exact hx0 | exact hx1))))) src gr); have T7 : Hid (DB [(w1.heap.size, [.int .i64 z.k, .int .i64 z.l, .int .i64 z.r, .int .i64 z.a, .int .i64 z.b, .int .i64 z.c, .int .i64 z.d]), (w.heap.size + 1, [.int .i64 0, .int .i64 0]), (w.heap.size, [.int .i64 0, .int .i64 0, .int .i64 0, .int .i64 0, .int .i64 0, .int .i64 0, .int .i64 0])] B a len cap w w7) := Lib.hid (DB.call (show DB [(w1.heap.size, [.int .i64 z.k, .int .i64 z.l, .int .i64 z.r, .int .i64 z.a, .int .i64 z.b, .int .i64 z.c, .int .i64 z.d]), (w.heap.size + 1, [.int .i64 0, .int .i64 0]), (w.heap.size, [.int .i64 0, .int .i64 0, .int .i64 0, .int .i64 0, .int .i64 0, .int .i64 0, .int .i64 0])] B a len cap w _ from (by repeat (first | (with_reducible exact Hid.out (by assumption)) | (with_reducible refine DB.drew ?_) | (with_reducible refine DB.drewN ?_ _)))) src gr); clear src gr u1 u2)
                | (go_at_call 58; refine (s_Next B a len cap _ _ (DB.src (show DB [(w1.heap.size, [.int .i64 z.k, .int .i64 z.l, .int .i64 z.r, .int .i64 z.a, .int .i64 z.b, .int .i64 z.c, .int .i64 z.d])] B a len cap w _ from (by repeat (first | (with_reducible exact Hid.out (by assumption)) | (with_reducible refine DB.drew ?_) | (with_reducible refine DB.drewN ?_ _) | (with_reducible refine DB.far ?_ _ _ _ (by first | exact Nat.le_refl _ | exact Nat.le_succ _) (by first | exact hx0 | exact hx1)))))) (by omega) (by omega)).mono ?_; rintro e w8 ⟨v, rfl, v0, v1, v2, src, gr⟩; have hv := v1 (by omega); have huv := uv_bd u v u0 hu v0 hv; have m1 : IntKind.i64.wrap (u * v) = u * v := IntWalk.i64_in _ ⟨by omega, by omega⟩; have m2 : IntKind.i64.wrap (e9 - u * v) = e9 - u * v := IntWalk.i64_in _ ⟨by omega, by omega⟩; have X8 : Hid (DB [(w1.heap.size, [.int .i64 z.k, .int .i64 z.l, .int .i64 z.r, .int .i64 z.a, .int .i64 z.b, .int .i64 z.c, .int .i64 z.d])] B a len cap w w8) := Lib.hid (DB.call (show DB [(w1.heap.size, [.int .i64 z.k, .int .i64 z.l, .int .i64 z.r, .int .i64 z.a, .int .i64 z.b, .int .i64 z.c, .int .i64 z.d])] B a len cap w _ from (by repeat (first | (with_reducible exact Hid.out (by assumption)) | (with_reducible refine DB.drew ?_) | (with_reducible refine DB.drewN ?_ _) | (with_reducible refine DB.far ?_ _ _ _ (by first | exact Nat.le_refl _ | exact Nat.le_succ _) (by first | exact hx0 | exact hx1))))) src gr); have T8 : Hid (DB [(w1.heap.size, [.int .i64 z.k, .int .i64 z.l, .int .i64 z.r, .int .i64 z.a, .int .i64 z.b, .int .i64 z.c, .int .i64 z.d]), (w.heap.size + 1, [.int .i64 0, .int .i64 0]), (w.heap.size, [.int .i64 0, .int .i64 0, .int .i64 0, .int .i64 0, .int .i64 0, .int .i64 0, .int .i64 0])] B a len cap w w8) := Lib.hid (DB.call (show DB [(w1.heap.size, [.int .i64 z.k, .int .i64 z.l, .int .i64 z.r, .int .i64 z.a, .int .i64 z.b, .int .i64 z.c, .int .i64 z.d]), (w.heap.size + 1, [.int .i64 0, .int .i64 0]), (w.heap.size, [.int .i64 0, .int .i64 0, .int .i64 0, .int .i64 0, .int .i64 0, .int .i64 0, .int .i64 0])] B a len cap w _ from (by repeat (first | (with_reducible exact Hid.out (by assumption)) | (with_reducible refine DB.drew ?_) | (with_reducible refine DB.drewN ?_ _)))) src gr); obtain ⟨r0, r1, r2, r3, r4, r5, r6, rf0, rf1, rf2, rf3, rf4, rf5, rf6⟩ := Fr.o7 (T8.out.fr w.heap.size [.int .i64 0, .int .i64 0, .int .i64 0, .int .i64 0, .int .i64 0, .int .i64 0, .int .i64 0] (by simp)); obtain ⟨s0, s1, sf0, sf1⟩ := Fr.o2 (T8.out.fr (w.heap.size + 1) [.int .i64 0, .int .i64 0] (by simp)); clear src gr v1 v2))
            all_goals
              go_wp2_with fail
            all_goals
              go_meet
              first
                | exact ⟨_, setRes T8.out _ _ _ _ _ _ _ _ _⟩
                | exact ⟨_, (setRes T8.out _ _ _ _ _ _ _ _ _).drew⟩
          case rest =>
            obtain ⟨y0, hF⟩ := hcut
            obtain ⟨s0', s1', sf0', sf1'⟩ := Fr.o2 (hF.fr (w.heap.size + 1) [.int .i64 y0, .int .i64 e9] (by simp))
            obtain ⟨c0', c1', c2', c3', c4', c5', c6', _⟩ := Fr.o7 (hF.fr w.heap.size [.int .i64 z.k, .int .i64 z.l, .int .i64 z.r, .int .i64 z.a, .int .i64 z.b, .int .i64 z.c, .int .i64 z.d] (by simp))
            have HFS := Lib.hid hF.st
            clear r0 r1 r2 r3 r4 r5 r6 rf0 rf1 rf2 rf3 rf4 rf5 rf6 s0 s1 sf0 sf1 hF X9 T9
            go_wp2_with fail
            refine bodyPost_ret (v := .tuple #[.agg #[.int .i64 z.k, .int .i64 z.l, .int .i64 z.r, .int .i64 z.a, .int .i64 z.b, .int .i64 z.c, .int .i64 z.d], .agg #[.int .i64 y0, .int .i64 e9]]) (by simp [results, Try.results84, go_sem, *]) rfl ⟨z, y0, e9, rfl, fin_st HFS.out⟩
      · have hcc : (c == 0) = false := by simpa using hc
        have hW : Hid (DB [(w1.heap.size, [.int .i64 z.k, .int .i64 z.l, .int .i64 z.r, .int .i64 z.a, .int .i64 z.b, .int .i64 z.c, .int .i64 z.d]), (w.heap.size + 1, [.int .i64 0, .int .i64 0]), (w.heap.size, [.int .i64 0, .int .i64 0, .int .i64 0, .int .i64 0, .int .i64 0, .int .i64 0, .int .i64 0])] B a len cap w _) := T6
        go_wp2_with fail
        refine into (fun W => DB [(w1.heap.size, [.int .i64 z.k, .int .i64 z.l, .int .i64 z.r, .int .i64 z.a, .int .i64 z.b, .int .i64 z.c, .int .i64 z.d]), (w.heap.size + 1, [.int .i64 0, .int .i64 0]), (w.heap.size, [.int .i64 0, .int .i64 0, .int .i64 0, .int .i64 0, .int .i64 0, .int .i64 0, .int .i64 0])] B a len cap w W) (by repeat (first | (with_reducible exact Hid.out (by assumption)) | (with_reducible refine DB.drew ?_) | (with_reducible refine DB.drewN ?_ _))) ?_
        intro W hw9
        have T9 := Lib.hid hw9
        have X9 : Hid (DB [(w1.heap.size, [.int .i64 z.k, .int .i64 z.l, .int .i64 z.r, .int .i64 z.a, .int .i64 z.b, .int .i64 z.c, .int .i64 z.d])] B a len cap w W) := Lib.hid ⟨fun r hr => hw9.1 r (by simp at hr ⊢; exact .inl hr), hw9.2⟩
        obtain ⟨r0, r1, r2, r3, r4, r5, r6, rf0, rf1, rf2, rf3, rf4, rf5, rf6⟩ := Fr.o7 (T9.out.fr w.heap.size [.int .i64 0, .int .i64 0, .int .i64 0, .int .i64 0, .int .i64 0, .int .i64 0, .int .i64 0] (by simp)); obtain ⟨s0, s1, sf0, sf1⟩ := Fr.o2 (T9.out.fr (w.heap.size + 1) [.int .i64 0, .int .i64 0] (by simp))
        clear hw9 hW
        go_region_held3 (fun w' => w'.cell? ⟨w1.heap.size, 0, none⟩ = some (.int .i64 z.k) ∧ w'.cell? ⟨w1.heap.size, 1, none⟩ = some (.int .i64 z.l) ∧ w'.cell? ⟨w1.heap.size, 2, none⟩ = some (.int .i64 z.r) ∧ w'.cell? ⟨w1.heap.size, 3, none⟩ = some (.int .i64 z.a) ∧ w'.cell? ⟨w1.heap.size, 4, none⟩ = some (.int .i64 z.b) ∧ w'.cell? ⟨w1.heap.size, 5, none⟩ = some (.int .i64 z.c) ∧ w'.cell? ⟨w1.heap.size, 6, none⟩ = some (.int .i64 z.d) ∧ DB [(w1.heap.size, [.int .i64 z.k, .int .i64 z.l, .int .i64 z.r, .int .i64 z.a, .int .i64 z.b, .int .i64 z.c, .int .i64 z.d])] B a len cap w w') ((refine keepX ?_; repeat (first | (with_reducible exact Hid.out (by assumption)) | (with_reducible refine DB.drew ?_) | (with_reducible refine DB.drewN ?_ _) | (with_reducible refine DB.far ?_ _ _ _ (by first | exact Nat.le_refl _ | exact Nat.le_succ _) (by first | exact hx0 | exact hx1)))))
          (first
            | (go_at_call 60; refine (s_l06Draw B a len cap _ (DB.src (show DB [(w1.heap.size, [.int .i64 z.k, .int .i64 z.l, .int .i64 z.r, .int .i64 z.a, .int .i64 z.b, .int .i64 z.c, .int .i64 z.d])] B a len cap w _ from (by repeat (first | (with_reducible exact Hid.out (by assumption)) | (with_reducible refine DB.drew ?_) | (with_reducible refine DB.drewN ?_ _) | (with_reducible refine DB.far ?_ _ _ _ (by first | exact Nat.le_refl _ | exact Nat.le_succ _) (by first | exact hx0 | exact hx1))))))).mono ?_; rintro e w8 ⟨x, y, rfl, px, py, src, gr⟩; have X8 : Hid (DB [(w1.heap.size, [.int .i64 z.k, .int .i64 z.l, .int .i64 z.r, .int .i64 z.a, .int .i64 z.b, .int .i64 z.c, .int .i64 z.d])] B a len cap w w8) := Lib.hid (DB.call (show DB [(w1.heap.size, [.int .i64 z.k, .int .i64 z.l, .int .i64 z.r, .int .i64 z.a, .int .i64 z.b, .int .i64 z.c, .int .i64 z.d])] B a len cap w _ from (by repeat (first | (with_reducible exact Hid.out (by assumption)) | (with_reducible refine DB.drew ?_) | (with_reducible refine DB.drewN ?_ _) | (with_reducible refine DB.far ?_ _ _ _ (by first | exact Nat.le_refl _ | exact Nat.le_succ _) (by first | exact hx0 | exact hx1))))) src gr); have T8 : Hid (DB [(w1.heap.size, [.int .i64 z.k, .int .i64 z.l, .int .i64 z.r, .int .i64 z.a, .int .i64 z.b, .int .i64 z.c, .int .i64 z.d]), (w.heap.size + 1, [.int .i64 0, .int .i64 0]), (w.heap.size, [.int .i64 0, .int .i64 0, .int .i64 0, .int .i64 0, .int .i64 0, .int .i64 0, .int .i64 0])] B a len cap w w8) := Lib.hid (DB.call (show DB [(w1.heap.size, [.int .i64 z.k, .int .i64 z.l, .int .i64 z.r, .int .i64 z.a, .int .i64 z.b, .int .i64 z.c, .int .i64 z.d]), (w.heap.size + 1, [.int .i64 0, .int .i64 0]), (w.heap.size, [.int .i64 0, .int .i64 0, .int .i64 0, .int .i64 0, .int .i64 0, .int .i64 0, .int .i64 0])] B a len cap w _ from (by repeat (first | (with_reducible exact Hid.out (by assumption)) | (with_reducible refine DB.drew ?_) | (with_reducible refine DB.drewN ?_ _)))) src gr); obtain ⟨r0, r1, r2, r3, r4, r5, r6, rf0, rf1, rf2, rf3, rf4, rf5, rf6⟩ := Fr.o7 (T8.out.fr w.heap.size [.int .i64 0, .int .i64 0, .int .i64 0, .int .i64 0, .int .i64 0, .int .i64 0, .int .i64 0] (by simp)); obtain ⟨s0, s1, sf0, sf1⟩ := Fr.o2 (T8.out.fr (w.heap.size + 1) [.int .i64 0, .int .i64 0] (by simp)); clear src gr))
        all_goals
          go_wp2_with fail
          refine bodyPost_ret (v := .tuple #[.agg #[.int .i64 z.k, .int .i64 z.l, .int .i64 z.r, .int .i64 z.a, .int .i64 z.b, .int .i64 z.c, .int .i64 z.d], .agg #[.int .i64 x, .int .i64 y]]) (by simp [results, Try.results84, go_sem, *]) rfl ⟨z, x, y, rfl, (by first | exact fin_st (((fin7 (DB.st T8.out) w.heap.size (Nat.le_refl _) _ _ _ _ _ _ _).set (w.heap.size + 1) 0 (.int .i64 x) (Nat.le_succ _) (fun x hx => by simp at hx)).set (w.heap.size + 1) 1 (.int .i64 y) (Nat.le_succ _) (fun x hx => by simp at hx)) | exact fin_st ((((fin7 (DB.st T8.out) w.heap.size (Nat.le_refl _) _ _ _ _ _ _ _).set (w.heap.size + 1) 0 (.int .i64 x) (Nat.le_succ _) (fun x hx => by simp at hx)).set (w.heap.size + 1) 1 (.int .i64 y) (Nat.le_succ _) (fun x hx => by simp at hx)).drew))⟩
/-- a drawn segment and an energy, for a law -/
def OneZ (w : World) (e : Ending) (w' : World) : Prop :=
  ∃ (z : Sg) (x y : Int), e = .returned (.tuple #[.agg #[.int .i64 z.k, .int .i64 z.l, .int .i64 z.r, .int .i64 z.a, .int .i64 z.b, .int .i64 z.c, .int .i64 z.d], .agg #[.int .i64 x, .int .i64 y]]) ∧ Later w w'
set_option maxRecDepth 100000 in
theorem s_DrawStoppingDistance (a : Option Addr) (len cap : Nat) (w : World) (hs : Bytes w a len) :
    Calls Try.prog 40 #[.slice a len cap] w (OneZ w) := by
  have HS := Lib.hid hs
  clear hs
  go_enter Try.func40, Try.ntmps40
  go_wp2_with fail
  refine (s_From a len cap _ (HS.out.later (((Later.refl _).alloc _).alloc _))).mono ?_
  rintro e w1 ⟨rfl, src, lt, bel⟩
  have F1 := fr_later (fr_later (fr_alloc (X := w) (l := [.int .i64 0, .int .i64 0, .int .i64 0, .int .i64 0, .int .i64 0, .int .i64 0, .int .i64 0]) (T := 27) (Later.refl _)) ((Later.refl _).alloc (.cells #[.int .i64 0, .int .i64 0] 25))) bel
  have F2 := fr_later (fr_alloc (X := w.alloc (.cells #[.int .i64 0, .int .i64 0, .int .i64 0, .int .i64 0, .int .i64 0, .int .i64 0, .int .i64 0] 27)) (l := [.int .i64 0, .int .i64 0]) (T := 25) (Later.refl _)) bel
  have B1 : Hid (Later w w1) := Lib.hid (Later.trans (((Later.refl _).alloc _).alloc _) bel)
  rw [World.size_alloc] at F2
  rw [World.size_alloc, World.size_alloc] at src lt ⊢
  have S1 := Lib.hid src
  clear src bel
  go_wp2_with fail
  refine (s_DrawStop (w.heap.size + 1 + 1) a len cap _ S1.out).mono ?_
  rintro e w2 ⟨z, x, y, rfl, src, gr⟩
  have B2 : Hid (Later w w2) := Lib.hid (Below.grown B1.out gr B1.out.size (fun k h => by have := Option.some.inj h; omega))
  have G1 := fr_keptD F1 gr (fun e => by have := Option.some.inj e; omega)
  have G2 := fr_keptD F2 gr (fun e => by have := Option.some.inj e; omega)
  obtain ⟨c0, c1, c2, c3, c4, c5, c6, f0, f1, f2, f3, f4, f5, f6⟩ := Fr.o7 G1
  obtain ⟨d0, d1, g0, g1⟩ := Fr.o2 G2
  clear src gr F1 F2 G1 G2
  go_wp2_with fail
  refine bodyPost_ret (v := .tuple #[.agg #[.int .i64 z.k, .int .i64 z.l, .int .i64 z.r, .int .i64 z.a, .int .i64 z.b, .int .i64 z.c, .int .i64 z.d], .agg #[.int .i64 x, .int .i64 y]]) (by simp [results, Try.results40, go_sem, *]) rfl ⟨z, x, y, rfl, ?_⟩
  repeat (first | (with_reducible exact B2.out) | (refine Later.setCell ?_ (by simp) _))
end Go.Proofs.Ytdhoiiejcmnmbaa
