/- The drawn brakes and stops of chapter 7. -/
import Derived.Test.YtdhoiiejcmnmbaaEnF
import Derived.Test.YtdhoiiejcmnmbaaBrT
import Derived.Test.YtdhoiiejcmnmbaaSgA
import Derived.Test.YtdhoiiejcmnmbaaEnC
namespace Go.Proofs.Ytdhoiiejcmnmbaa
open Go.RowKit
set_option maxHeartbeats 4000000
set_option linter.unusedVariables false
set_option linter.unusedSimpArgs false
/-- boxes of a call's own, and the source -/
def DB (rs : List (Nat × List Value)) (B : Nat) (a : Option Addr) (len cap : Nat) (w0 W : World) : Prop :=
  (∀ r ∈ rs, w0.heap.size ≤ r.1 ∧ Fr r.1 r.2 W) ∧ St [] B a len cap w0 W
section
variable {rs : List (Nat × List Value)} {B : Nat} {a : Option Addr} {len cap : Nat} {w0 W W1 : World}
theorem DB.begin (h : Src w0 B a len cap) : DB [] B a len cap w0 w0 := ⟨fun r hr => by simp at hr, St.begin h⟩
theorem DB.st (h : DB rs B a len cap w0 W) : St [] B a len cap w0 W := h.2
theorem DB.src (h : DB rs B a len cap w0 W) : Src W B a len cap := h.2.src
theorem DB.later (h : DB rs B a len cap w0 W) (k : Later W W1) : DB rs B a len cap w0 W1 := ⟨fun r hr => ⟨(h.1 r hr).1, fr_later (h.1 r hr).2 k⟩, h.2.later k⟩
theorem DB.drew (h : DB rs B a len cap w0 W) : DB rs B a len cap w0 W.drew := h.later (Later.refl _).drew
theorem DB.drewN (h : DB rs B a len cap w0 W) (q : Nat) : DB rs B a len cap w0 (W.drewN q) := h.later ((Later.refl _).drewN q)
theorem DB.call (h : DB rs B a len cap w0 W) (src : Src W1 B a len cap) (gr : W.grownBy W1 (some B)) : DB rs B a len cap w0 W1 :=
  ⟨fun r hr => ⟨(h.1 r hr).1, fr_keptD (h.1 r hr).2 gr (fun e => by have h1 := (h.1 r hr).1; have h2 := h.2.lt; have := Option.some.inj e; omega)⟩, h.2.call src gr⟩
theorem DB.box (h : DB rs B a len cap w0 W) (vs : List Value) (T : TypeId) (W' : World) (e : W' = W.alloc (.cells vs.toArray T)) : DB ((W.heap.size, vs) :: rs) B a len cap w0 W' := by
  subst e
  refine ⟨fun r hr => ?_, h.2.alloc _⟩
  rcases List.mem_cons.1 hr with rfl | hr
  · exact ⟨h.2.le, fr_new W vs T⟩
  · exact ⟨(h.1 r hr).1, fr_later (h.1 r hr).2 ((Later.refl _).alloc _)⟩
theorem DB.set {g : Nat} {vs : List Value} (h : DB ((g, vs) :: rs) B a len cap w0 W) (hne : ∀ r ∈ rs, r.1 ≠ g) (j : Nat) (u : Value) : DB ((g, vs.set j u) :: rs) B a len cap w0 (W.setCell ⟨g, j, none⟩ u) := by
  have hg := (h.1 (g, vs) (by simp)).1
  refine ⟨fun r hr => ?_, h.2.set g j u hg (fun x hx => by simp at hx)⟩
  rcases List.mem_cons.1 hr with rfl | hr
  · exact ⟨hg, fr_set (h.1 (g, vs) (by simp)).2 j u⟩
  · exact ⟨(h.1 r (by simp [hr])).1, fr_far (h.1 r (by simp [hr])).2 _ _ (fun e => hne r hr e.symm)⟩
theorem DB.far (h : DB rs B a len cap w0 W) (g j : Nat) (u : Value) (hg : w0.heap.size ≤ g) (hne : ∀ r ∈ rs, r.1 ≠ g) : DB rs B a len cap w0 (W.setCell ⟨g, j, none⟩ u) :=
  ⟨fun r hr => ⟨(h.1 r hr).1, fr_far (h.1 r hr).2 _ _ (fun e => hne r hr e.symm)⟩, h.2.set g j u hg (fun x hx => by simp at hx)⟩
theorem DB.fr (h : DB rs B a len cap w0 W) (g : Nat) (vs : List Value) (hg : (g, vs) ∈ rs) : Fr g vs W := (h.1 (g, vs) hg).2
theorem DB.fewer {y : Nat × List Value} (h : DB (y :: rs) B a len cap w0 W) : DB rs B a len cap w0 W := ⟨fun r hr => h.1 r (List.mem_cons_of_mem _ hr), h.2⟩
end
/-- a segment is stored into a result's cells -/
theorem fin7 {B : Nat} {a : Option Addr} {len cap : Nat} {w0 W : World} (h : St [] B a len cap w0 W) (g : Nat) (hg : w0.heap.size ≤ g) (u0 u1 u2 u3 u4 u5 u6 : Value) : St [] B a len cap w0 (((((((W.setCell ⟨g, 0, none⟩ u0).setCell ⟨g, 1, none⟩ u1).setCell ⟨g, 2, none⟩ u2).setCell ⟨g, 3, none⟩ u3).setCell ⟨g, 4, none⟩ u4).setCell ⟨g, 5, none⟩ u5).setCell ⟨g, 6, none⟩ u6) := by
  have n : ∀ x ∈ ([] : List (Nat × Nat × Value)), x.1 ≠ g := fun x hx => by simp at hx
  exact ((((((h.set g 0 u0 hg n).set g 1 u1 hg n).set g 2 u2 hg n).set g 3 u3 hg n).set g 4 u4 hg n).set g 5 u5 hg n).set g 6 u6 hg n
/-- a drawn segment -/
def DrawnZ (w : World) (B : Nat) (a : Option Addr) (len cap : Nat) (e : Ending) (w' : World) : Prop :=
  ∃ z : Sg, e = .returned (.agg #[.int .i64 z.k, .int .i64 z.l, .int .i64 z.r, .int .i64 z.a, .int .i64 z.b, .int .i64 z.c, .int .i64 z.d]) ∧ Src w' B a len cap ∧ w.grownBy w' (some B)
set_option maxRecDepth 100000 in
theorem s_DrawBrake (B : Nat) (a : Option Addr) (len cap : Nat) (w : World) (hs : Src w B a len cap) :
    Calls Try.prog 110 #[.pointer (some ⟨B, 0, none⟩)] w (DrawnZ w B a len cap) := by
  have T0 := Lib.hid (DB.begin hs)
  clear hs
  go_enter Try.func110, Try.ntmps110
  go_wp2_with fail
  have T1 := Lib.hid (T0.out.box [.int .i64 0, .int .i64 0, .int .i64 0, .int .i64 0, .int .i64 0, .int .i64 0, .int .i64 0] 27 _ rfl)
  refine (s_Next B a len cap 12 _ T1.out.src (by omega) (by omega)).mono ?_
  rintro e w1 ⟨c, rfl, x0, x1, x2, src, gr⟩
  have T2 := Lib.hid (T1.out.call src gr)
  have hz1 : w.heap.size < w1.heap.size := by have := gr.size; rw [World.size_alloc] at this; omega
  clear src gr x1 x2 T0 T1
  by_cases hc : c = 0
  · subst hc
    go_wp2_with fail
    refine (s_DrawAny B a len cap _ T2.out.src).mono ?_
    rintro e w2 ⟨sk, sl, sr, sx, sy, sz, st, rfl, _, _, _, _, _, _, _, src, gr⟩
    have T3 := Lib.hid (T2.out.call src gr)
    obtain ⟨r0, r1, r2, r3, r4, r5, r6, rf0, rf1, rf2, rf3, rf4, rf5, rf6⟩ := Fr.o7 (T3.out.fr (w.heap.size) [.int .i64 0, .int .i64 0, .int .i64 0, .int .i64 0, .int .i64 0, .int .i64 0, .int .i64 0] (by simp))
    clear src gr T2
    go_wp2_with fail
    refine bodyPost_ret (v := .agg #[.int .i64 sk, .int .i64 sl, .int .i64 sr, .int .i64 sx, .int .i64 sy, .int .i64 sz, .int .i64 st]) (by simp [results, Try.results110, go_sem, *]) rfl ⟨⟨sk, sl, sr, sx, sy, sz, st⟩, rfl, fin_st (fin7 (DB.st T3.out) w.heap.size (Nat.le_refl _) _ _ _ _ _ _ _)⟩
  · have hcc : (c == 0) = false := by simpa using hc
    go_wp2_with fail
    refine (s_Next B a len cap 2 _ T2.out.src (by omega) (by omega)).mono ?_
    rintro e w2 ⟨q, rfl, y0, y1, y2, src, gr⟩
    have T3 := Lib.hid (T2.out.call src gr)
    have hq := y1 (by omega)
    have hz2 : w.heap.size < w2.heap.size := by have := gr.size; omega
    clear src gr y1 y2 T2
    have hwk : IntKind.i64.wrap (3 + q) = 3 + q := IntWalk.i64_in _ ⟨by omega, by omega⟩
    go_wp2_with fail
    refine (s_DrawSegment B a len cap (3 + q) _ T3.out.src (by omega) (by omega)).mono ?_
    rintro e w3 ⟨sk, sl, sr, sx, sy, sz, st, rfl, _, hsl, _, _, _, _, _, src, gr⟩
    have T4 := Lib.hid ((T3.out.call src gr).box [.int .i64 sk, .int .i64 sl, .int .i64 sr, .int .i64 sx, .int .i64 sy, .int .i64 sz, .int .i64 st] 27 _ rfl)
    have hz3 : w.heap.size < w3.heap.size := by have := gr.size; omega
    clear src gr T3
    go_wp2_with fail
    refine (s_Next B a len cap 12 _ T4.out.src (by omega) (by omega)).mono ?_
    rintro e w4 ⟨d, rfl, v0, v1, v2, src, gr⟩
    have T5 := Lib.hid (T4.out.call src gr)
    obtain ⟨x0, x1, x2, x3, x4, x5, x6, xf0, xf1, xf2, xf3, xf4, xf5, xf6⟩ := Fr.o7 (T5.out.fr (w3.heap.size) [.int .i64 sk, .int .i64 sl, .int .i64 sr, .int .i64 sx, .int .i64 sy, .int .i64 sz, .int .i64 st] (by simp))
    obtain ⟨r0, r1, r2, r3, r4, r5, r6, rf0, rf1, rf2, rf3, rf4, rf5, rf6⟩ := Fr.o7 (T5.out.fr (w.heap.size) [.int .i64 0, .int .i64 0, .int .i64 0, .int .i64 0, .int .i64 0, .int .i64 0, .int .i64 0] (by simp))
    have hz4 : w3.heap.size < w4.heap.size := by have := gr.size; rw [World.size_alloc] at this; omega
    have n1 : ¬ w3.heap.size = w.heap.size := by omega
    have n2 : ¬ w.heap.size = w3.heap.size := by omega
    clear src gr v1 v2 T4
    by_cases hd : d = 0
    · subst hd
      have hwn : IntKind.i64.wrap (-sl) = -sl := IntWalk.i64_in _ ⟨by have := hsl.2; omega, by have := hsl.1; omega⟩
      go_wp2_with fail
      have T6 := Lib.hid (T5.out.set (g := w3.heap.size) (by intro r hr; simp at hr; subst hr; exact n2) 2 (.int .i64 (-sl)))
      refine (s_Next B a len cap 3 _ T6.out.src (by omega) (by omega)).mono ?_
      rintro e w5 ⟨u, rfl, u0, u1, u2, src, gr⟩
      have T7 := Lib.hid (T6.out.call src gr)
      have hu := u1 (by omega)
      clear x0 xf0 r0 rf0 x1 xf1 r1 rf1 x2 xf2 r2 rf2 x3 xf3 r3 rf3 x4 xf4 r4 rf4 x5 xf5 r5 rf5 x6 xf6 r6 rf6 src gr u1 u2 T5 T6
      obtain ⟨x0, x1, x2, x3, x4, x5, x6, xf0, xf1, xf2, xf3, xf4, xf5, xf6⟩ := Fr.o7 (T7.out.fr w3.heap.size [.int .i64 sk, .int .i64 sl, .int .i64 (-sl), .int .i64 sx, .int .i64 sy, .int .i64 sz, .int .i64 st] (by simp))
      obtain ⟨r0, r1, r2, r3, r4, r5, r6, rf0, rf1, rf2, rf3, rf4, rf5, rf6⟩ := Fr.o7 (T7.out.fr (w.heap.size) [.int .i64 0, .int .i64 0, .int .i64 0, .int .i64 0, .int .i64 0, .int .i64 0, .int .i64 0] (by simp))
      have hwu : IntKind.i64.wrap (9806 - u) = 9806 - u := IntWalk.i64_in _ ⟨by omega, by omega⟩
      go_wp2_with fail
      refine bodyPost_ret (v := .agg #[.int .i64 sk, .int .i64 sl, .int .i64 (-sl), .int .i64 sx, .int .i64 sy, .int .i64 (9806 - u), .int .i64 9900]) (by simp [results, Try.results110, go_sem, *]) rfl ⟨⟨sk, sl, -sl, sx, sy, 9806 - u, 9900⟩, rfl, fin_st (fin7 (((DB.st T7.out).set w3.heap.size 5 (.int .i64 (9806 - u)) (by omega) (fun x hx => by simp at hx)).set w3.heap.size 6 (.int .i64 9900) (by omega) (fun x hx => by simp at hx)) w.heap.size (Nat.le_refl _) _ _ _ _ _ _ _)⟩
    · have hdd : (d == 0) = false := by simpa using hd
      go_wp2_with fail
      refine bodyPost_ret (v := .agg #[.int .i64 sk, .int .i64 sl, .int .i64 sr, .int .i64 sx, .int .i64 sy, .int .i64 sz, .int .i64 st]) (by simp [results, Try.results110, go_sem, *]) rfl ⟨⟨sk, sl, sr, sx, sy, sz, st⟩, rfl, fin_st (fin7 (DB.st T5.out) w.heap.size (Nat.le_refl _) _ _ _ _ _ _ _)⟩
end Go.Proofs.Ytdhoiiejcmnmbaa
