/- The state of a function that draws out of a code: boxes of its own (its results' among them), and the source. | The drawn stops of chapter 7. | Plain words of chapter 8: devices that are on, launches, lifts, trains that turn back. No program in sight. | Contracts of chapter 8: the program's functions on one segment whose device is on. | Contracts of chapter 8: launches, lifts, trains that turn back: of the program. | Contracts of chapter 8: launches, lifts, trains that turn back: the model's functions. | The drawn arguments of the laws of chapter 8 on lifts and on trains that turn back. | The drawn arguments of the law of chapter 8 on launches. | Contracts of chapter 6: the program's functions on one segment, with their errors. | Slices that came in, as the shell of a proof says them. | The walk of the law of chapter 6 on speeds and energies. | The walk of the law on launches. -/
import Derived.Test.YtdhoiiejcmnmbaaBrD
import Derived.Test.YtdhoiiejcmnmbaaBrM
import Derived.Test.YtdhoiiejcmnmbaaEnP
import Derived.Test.YtdhoiiejcmnmbaaMathL
import Derived.Test.YtdhoiiejcmnmbaaBrI
import Derived.Test.YtdhoiiejcmnmbaaEnL
import Derived.Test.YtdhoiiejcmnmbaaIvo
import Derived.Test.YtdhoiiejcmnmbaaNum
import Derived.Test.YtdhoiiejcmnmbaaBrJ
import Derived.Test.YtdhoiiejcmnmbaaBrS
import Derived.Test.YtdhoiiejcmnmbaaEnI
import Derived.Test.YtdhoiiejcmnmbaaRoot
import Derived.RegionTactic
import Derived.ChangeAlike
import Derived.BigQuiet
import Derived.Deep.QuietTactic
import Derived.Test.YtdhoiiejcmnmbaaFrom
import Derived.Test.YtdhoiiejcmnmbaaEnF
import Derived.Test.YtdhoiiejcmnmbaaEnT
namespace Go.Proofs.Ytdhoiiejcmnmbaa
open Go.RowKit
set_option maxHeartbeats 4000000
set_option linter.unusedVariables false
set_option linter.unusedSimpArgs false
def DZ (rs : List (Nat × List Value)) (B : Nat) (a : Option Addr) (len cap : Nat) (w W : World) : Prop :=
  (∀ r ∈ rs, w.heap.size ≤ r.1 ∧ r.1 ≠ B ∧ Fr r.1 r.2 W) ∧ Src W B a len cap ∧ w.heap.size ≤ B ∧ (0 < len → ∀ x, a = some x → x.block < w.heap.size) ∧ Later w W
section
variable {rs : List (Nat × List Value)} {B : Nat} {a : Option Addr} {len cap : Nat} {w W W1 : World}
theorem bytes_low (h : Bytes w a len) : 0 < len → ∀ x, a = some x → x.block < w.heap.size := by
  intro hl x hx
  obtain ⟨b, off, y, hb, hc, _⟩ := h.2 0 hl
  rw [hx] at hb; cases hb
  exact cell_lt hc
theorem DZ.begin {W0 : World} (hs : Bytes w a len) (h0 : Later w W0) (hrs : ∀ r ∈ rs, w.heap.size ≤ r.1 ∧ Fr r.1 r.2 W0) (src : Src W1 W0.heap.size a len cap) (bel : Later W0 W1) : DZ rs W0.heap.size a len cap w W1 :=
  ⟨fun r hr => ⟨(hrs r hr).1, Nat.ne_of_lt (hrs r hr).2.lt, fr_later (hrs r hr).2 bel⟩, src, h0.size, bytes_low hs, h0.trans bel⟩
theorem DZ.src (h : DZ rs B a len cap w W) : Src W B a len cap := h.2.1
theorem DZ.is (h : DZ rs B a len cap w W) : Later w W := h.2.2.2.2
theorem DZ.later (h : DZ rs B a len cap w W) (k : Later W W1) : DZ rs B a len cap w W1 :=
  ⟨fun r hr => ⟨(h.1 r hr).1, (h.1 r hr).2.1, fr_later (h.1 r hr).2.2 k⟩, h.2.1.later k, h.2.2.1, h.2.2.2.1, h.2.2.2.2.trans k⟩
theorem DZ.drew (h : DZ rs B a len cap w W) : DZ rs B a len cap w W.drew := h.later (Later.refl _).drew
theorem DZ.drewN (h : DZ rs B a len cap w W) (q : Nat) : DZ rs B a len cap w (W.drewN q) := h.later ((Later.refl _).drewN q)
theorem DZ.alloc (h : DZ rs B a len cap w W) (o : Obj) : DZ rs B a len cap w (W.alloc o) := h.later ((Later.refl _).alloc o)
theorem DZ.call (h : DZ rs B a len cap w W) (src : Src W1 B a len cap) (gr : W.grownBy W1 (some B)) : DZ rs B a len cap w W1 :=
  ⟨fun r hr => ⟨(h.1 r hr).1, (h.1 r hr).2.1, fr_keptD (h.1 r hr).2.2 gr (fun e => (h.1 r hr).2.1 (Option.some.inj e).symm)⟩, src, h.2.2.1, h.2.2.2.1, Below.grown h.2.2.2.2 gr h.2.2.2.2.size (fun k e => by have := Option.some.inj e; have := h.2.2.1; omega)⟩
theorem DZ.box (h : DZ rs B a len cap w W) (vs : List Value) (T : TypeId) (W' : World) (e : W' = W.alloc (.cells vs.toArray T)) : DZ ((W.heap.size, vs) :: rs) B a len cap w W' := by
  subst e
  have hB := h.2.1.lt
  refine ⟨fun r hr => ?_, (h.alloc _).2⟩
  rcases List.mem_cons.1 hr with rfl | hr
  · exact ⟨h.2.2.2.2.size, Nat.ne_of_gt hB, fr_new W vs T⟩
  · exact (h.alloc _).1 r hr
/-- a store into a box that is not in the list -/
theorem DZ.far (h : DZ rs B a len cap w W) (g j : Nat) (u : Value) (hg : w.heap.size ≤ g) (hB : g ≠ B) (hne : ∀ r ∈ rs, r.1 ≠ g) : DZ rs B a len cap w (W.setCell ⟨g, j, none⟩ u) :=
  ⟨fun r hr => ⟨(h.1 r hr).1, (h.1 r hr).2.1, fr_far (h.1 r hr).2.2 _ _ (fun e => hne r hr e.symm)⟩, h.2.1.set1 (Ne.symm hB) (fun hl x hx => by have := h.2.2.2.1 hl x hx; omega), h.2.2.1, h.2.2.2.1, Later.setCell (p := ⟨g, j, none⟩) h.2.2.2.2 hg u⟩
/-- a store into the first box of the list -/
theorem DZ.set {g : Nat} {vs : List Value} (h : DZ ((g, vs) :: rs) B a len cap w W) (hne : ∀ r ∈ rs, r.1 ≠ g) (j : Nat) (u : Value) : DZ ((g, vs.set j u) :: rs) B a len cap w (W.setCell ⟨g, j, none⟩ u) := by
  obtain ⟨hg, hB, hF⟩ := h.1 (g, vs) (by simp)
  have h2 : DZ rs B a len cap w W := ⟨fun r hr => h.1 r (List.mem_cons_of_mem _ hr), h.2⟩
  have h3 := h2.far g j u hg hB hne
  refine ⟨fun r hr => ?_, h3.2⟩
  rcases List.mem_cons.1 hr with rfl | hr
  · exact ⟨hg, hB, fr_set hF j u⟩
  · exact h3.1 r hr
theorem DZ.fr (h : DZ rs B a len cap w W) (g : Nat) (vs : List Value) (hg : (g, vs) ∈ rs) : Fr g vs W := (h.1 (g, vs) hg).2.2
theorem DZ.fewer {y : Nat × List Value} (h : DZ (y :: rs) B a len cap w W) : DZ rs B a len cap w W := ⟨fun r hr => h.1 r (List.mem_cons_of_mem _ hr), h.2⟩
theorem DZ.sub {rs' : List (Nat × List Value)} (h : DZ rs B a len cap w W) (hs : ∀ r ∈ rs', r ∈ rs) : DZ rs' B a len cap w W := ⟨fun r hr => h.1 r (hs r hr), h.2⟩
theorem DZ.ne (h : DZ rs B a len cap w W) (g : Nat) (vs : List Value) (hg : (g, vs) ∈ rs) : g ≠ B ∧ g < W.heap.size := ⟨(h.1 (g, vs) hg).2.1, (h.1 (g, vs) hg).2.2.lt⟩
end
/-- seven stores into a box of the list (the first) -/
theorem DZ.set7 {g : Nat} {v0 v1 v2 v3 v4 v5 v6 : Value} {rs : List (Nat × List Value)} {B : Nat} {a : Option Addr} {len cap : Nat} {w W : World} (h : DZ ((g, [v0, v1, v2, v3, v4, v5, v6]) :: rs) B a len cap w W) (hne : ∀ r ∈ rs, r.1 ≠ g) (u0 u1 u2 u3 u4 u5 u6 : Value) :
    DZ ((g, [u0, u1, u2, u3, u4, u5, u6]) :: rs) B a len cap w (((((((W.setCell ⟨g, 0, none⟩ u0).setCell ⟨g, 1, none⟩ u1).setCell ⟨g, 2, none⟩ u2).setCell ⟨g, 3, none⟩ u3).setCell ⟨g, 4, none⟩ u4).setCell ⟨g, 5, none⟩ u5).setCell ⟨g, 6, none⟩ u6) :=
  ((((((h.set hne 0 u0).set hne 1 u1).set hne 2 u2).set hne 3 u3).set hne 4 u4).set hne 5 u5).set hne 6 u6
/-- seven stores, and two, into results' cells -/
theorem later7 {w W : World} (h : Later w W) (g : Nat) (hg : w.heap.size ≤ g) (u0 u1 u2 u3 u4 u5 u6 : Value) : Later w (((((((W.setCell ⟨g, 0, none⟩ u0).setCell ⟨g, 1, none⟩ u1).setCell ⟨g, 2, none⟩ u2).setCell ⟨g, 3, none⟩ u3).setCell ⟨g, 4, none⟩ u4).setCell ⟨g, 5, none⟩ u5).setCell ⟨g, 6, none⟩ u6) :=
  ((((((h.setCell (p := ⟨g, 0, none⟩) hg u0).setCell (p := ⟨g, 1, none⟩) hg u1).setCell (p := ⟨g, 2, none⟩) hg u2).setCell (p := ⟨g, 3, none⟩) hg u3).setCell (p := ⟨g, 4, none⟩) hg u4).setCell (p := ⟨g, 5, none⟩) hg u5).setCell (p := ⟨g, 6, none⟩) hg u6
theorem later2 {w W : World} (h : Later w W) (g : Nat) (hg : w.heap.size ≤ g) (u0 u1 : Value) : Later w ((W.setCell ⟨g, 0, none⟩ u0).setCell ⟨g, 1, none⟩ u1) :=
  (h.setCell (p := ⟨g, 0, none⟩) hg u0).setCell (p := ⟨g, 1, none⟩) hg u1
end Go.Proofs.Ytdhoiiejcmnmbaa
namespace Go.Proofs.Ytdhoiiejcmnmbaa
open Go.RowKit
set_option maxHeartbeats 4000000
set_option linter.unusedVariables false
set_option linter.unusedSimpArgs false
/-- a drawn segment and an energy -/
def DrawnZE (w : World) (B : Nat) (a : Option Addr) (len cap : Nat) (e : Ending) (w' : World) : Prop :=
  ∃ (z : Sg) (x y : Int), e = .returned (.tuple #[.agg #[.int .i64 z.k, .int .i64 z.l, .int .i64 z.r, .int .i64 z.a, .int .i64 z.b, .int .i64 z.c, .int .i64 z.d], .agg #[.int .i64 x, .int .i64 y]]) ∧ Src w' B a len cap ∧ w.grownBy w' (some B)
theorem keepX {g : Nat} {v0 v1 v2 v3 v4 v5 v6 : Value} {B : Nat} {a : Option Addr} {len cap : Nat} {w w' : World} (h : DB [(g, [v0, v1, v2, v3, v4, v5, v6])] B a len cap w w') :
    w'.cell? ⟨g, 0, none⟩ = some v0 ∧ w'.cell? ⟨g, 1, none⟩ = some v1 ∧ w'.cell? ⟨g, 2, none⟩ = some v2 ∧ w'.cell? ⟨g, 3, none⟩ = some v3 ∧ w'.cell? ⟨g, 4, none⟩ = some v4 ∧ w'.cell? ⟨g, 5, none⟩ = some v5 ∧ w'.cell? ⟨g, 6, none⟩ = some v6 ∧ DB [(g, [v0, v1, v2, v3, v4, v5, v6])] B a len cap w w' := by
  obtain ⟨c0, c1, c2, c3, c4, c5, c6, _⟩ := Fr.o7 (h.fr g [v0, v1, v2, v3, v4, v5, v6] (by simp))
  exact ⟨c0, c1, c2, c3, c4, c5, c6, h⟩
theorem uv_bd (u v : Int) (h1 : 0 ≤ u) (h2 : u < 3) (h3 : 0 ≤ v) (h4 : v < 1000000) : 0 ≤ u * v ∧ u * v ≤ 2000000 :=
  ⟨Int.mul_nonneg h1 h3, by have := Int.mul_le_mul (show u ≤ 2 by omega) (show v ≤ 1000000 by omega) h3 (by omega); omega⟩
theorem setRes {X : Nat × List Value} {g0 : Nat} {r0 r1 r2 r3 r4 r5 r6 s0 s1 : Value} {B : Nat} {a : Option Addr} {len cap : Nat} {w0 W : World} (h : DB [X, (g0 + 1, [s0, s1]), (g0, [r0, r1, r2, r3, r4, r5, r6])] B a len cap w0 W) (u0 u1 u2 u3 u4 u5 u6 y0 y1 : Value) :
    DB [(g0 + 1, [y0, y1]), (g0, [u0, u1, u2, u3, u4, u5, u6])] B a len cap w0 (((((((((W.setCell ⟨g0, 0, none⟩ u0).setCell ⟨g0, 1, none⟩ u1).setCell ⟨g0, 2, none⟩ u2).setCell ⟨g0, 3, none⟩ u3).setCell ⟨g0, 4, none⟩ u4).setCell ⟨g0, 5, none⟩ u5).setCell ⟨g0, 6, none⟩ u6).setCell ⟨g0 + 1, 0, none⟩ y0).setCell ⟨g0 + 1, 1, none⟩ y1) := by
  obtain ⟨b1, f1⟩ := h.1 (g0 + 1, [s0, s1]) (by simp)
  obtain ⟨b0, f0⟩ := h.1 (g0, [r0, r1, r2, r3, r4, r5, r6]) (by simp)
  have n : ∀ x ∈ ([] : List (Nat × Nat × Value)), x.1 ≠ g0 + 1 := fun x hx => by simp at hx
  have k0 := fr_set (fr_set (fr_set (fr_set (fr_set (fr_set (fr_set f0 0 u0) 1 u1) 2 u2) 3 u3) 4 u4) 5 u5) 6 u6
  have d : ∀ j : Nat, ((⟨g0, j, none⟩ : Addr)).block ≠ g0 + 1 := fun j => by show g0 ≠ g0 + 1; omega
  have k1 := fr_far (fr_far (fr_far (fr_far (fr_far (fr_far (fr_far f1 _ u0 (d 0)) _ u1 (d 1)) _ u2 (d 2)) _ u3 (d 3)) _ u4 (d 4)) _ u5 (d 5)) _ u6 (d 6)
  have e : ∀ j : Nat, ((⟨g0 + 1, j, none⟩ : Addr)).block ≠ g0 := fun j => by show g0 + 1 ≠ g0; omega
  refine ⟨fun r hr => ?_, ((fin7 h.2 g0 b0 u0 u1 u2 u3 u4 u5 u6).set (g0 + 1) 0 y0 b1 n).set (g0 + 1) 1 y1 b1 n⟩
  rcases List.mem_cons.1 hr with rfl | hr
  · exact ⟨b1, fr_set (fr_set k1 0 y0) 1 y1⟩
  · rcases List.mem_cons.1 hr with rfl | hr
    · exact ⟨b0, fr_far (fr_far k0 _ y0 (e 0)) _ y1 (e 1)⟩
    · simp at hr
theorem DB.none {rs : List (Nat × List Value)} {B : Nat} {a : Option Addr} {len cap : Nat} {w0 W : World} (h : DB rs B a len cap w0 W) : DB [] B a len cap w0 W := ⟨fun r hr => by simp at hr, h.2⟩
set_option maxRecDepth 100000 in
theorem s_DrawStop (B : Nat) (a : Option Addr) (len cap : Nat) (w : World) (hs : Src w B a len cap) :
    Calls Try.prog 84 #[.pointer (some ⟨B, 0, none⟩)] w (DrawnZE w B a len cap) := by
  have t2 := (((DB.begin hs).box [.int .i64 0, .int .i64 0, .int .i64 0, .int .i64 0, .int .i64 0, .int .i64 0, .int .i64 0] 27 _ rfl).box [.int .i64 0, .int .i64 0] 25 _ rfl)
  simp only [World.size_alloc] at t2
  have T2 := Lib.hid t2
  clear hs t2
  go_enter Try.func84, Try.ntmps84
  go_wp2_with fail
  refine (s_DrawBrake B a len cap _ T2.out.src).mono ?_
  rintro e w1 ⟨z, rfl, src, gr⟩
  have T3 : Hid (DB [(w1.heap.size, [.int .i64 z.k, .int .i64 z.l, .int .i64 z.r, .int .i64 z.a, .int .i64 z.b, .int .i64 z.c, .int .i64 z.d]), (w.heap.size + 1, [.int .i64 0, .int .i64 0]), (w.heap.size, [.int .i64 0, .int .i64 0, .int .i64 0, .int .i64 0, .int .i64 0, .int .i64 0, .int .i64 0])] B a len cap w (w1.alloc (.cells #[.int .i64 z.k, .int .i64 z.l, .int .i64 z.r, .int .i64 z.a, .int .i64 z.b, .int .i64 z.c, .int .i64 z.d] 27))) := Lib.hid ((T2.out.call src gr).box [.int .i64 z.k, .int .i64 z.l, .int .i64 z.r, .int .i64 z.a, .int .i64 z.b, .int .i64 z.c, .int .i64 z.d] 27 _ rfl)
  have hz1 : w.heap.size + 1 < w1.heap.size := by have := gr.size; simp only [World.size_alloc] at this; omega
  have hx0 : ∀ r ∈ ([(w1.heap.size, [.int .i64 z.k, .int .i64 z.l, .int .i64 z.r, .int .i64 z.a, .int .i64 z.b, .int .i64 z.c, .int .i64 z.d])] : List (Nat × List Value)), r.1 ≠ w.heap.size := by intro r hr; simp at hr; subst hr; show w1.heap.size ≠ w.heap.size; omega
  have hx1 : ∀ r ∈ ([(w1.heap.size, [.int .i64 z.k, .int .i64 z.l, .int .i64 z.r, .int .i64 z.a, .int .i64 z.b, .int .i64 z.c, .int .i64 z.d])] : List (Nat × List Value)), r.1 ≠ w.heap.size + 1 := by intro r hr; simp at hr; subst hr; show w1.heap.size ≠ w.heap.size + 1; omega
  have n1 : ¬ w1.heap.size = w.heap.size := by omega
  have n2 : ¬ w.heap.size = w1.heap.size := by omega
  have n3 : ¬ w1.heap.size = w.heap.size + 1 := by omega
  have n4 : ¬ w.heap.size + 1 = w1.heap.size := by omega
  clear src gr T2
  go_wp2_with fail
  refine (s_IsSegment z _).mono ?_
  cases hsg : sgB z
  · rintro e w2 ⟨rfl, hb⟩
    have T4 := Lib.hid (T3.out.later hb)
    clear hb T3
    have hW : Hid (DB [(w1.heap.size, [.int .i64 z.k, .int .i64 z.l, .int .i64 z.r, .int .i64 z.a, .int .i64 z.b, .int .i64 z.c, .int .i64 z.d]), (w.heap.size + 1, [.int .i64 0, .int .i64 0]), (w.heap.size, [.int .i64 0, .int .i64 0, .int .i64 0, .int .i64 0, .int .i64 0, .int .i64 0, .int .i64 0])] B a len cap w _) := T4
    go_wp2_with fail
    refine into (fun W => DB [(w1.heap.size, [.int .i64 z.k, .int .i64 z.l, .int .i64 z.r, .int .i64 z.a, .int .i64 z.b, .int .i64 z.c, .int .i64 z.d]), (w.heap.size + 1, [.int .i64 0, .int .i64 0]), (w.heap.size, [.int .i64 0, .int .i64 0, .int .i64 0, .int .i64 0, .int .i64 0, .int .i64 0, .int .i64 0])] B a len cap w W) (by repeat (first | (with_reducible exact Hid.out (by assumption)) | (with_reducible refine DB.drew ?_) | (with_reducible refine DB.drewN ?_ _))) ?_
    intro W hw9
    have T9 := Lib.hid hw9
    have X9 : Hid (DB [(w1.heap.size, [.int .i64 z.k, .int .i64 z.l, .int .i64 z.r, .int .i64 z.a, .int .i64 z.b, .int .i64 z.c, .int .i64 z.d])] B a len cap w W) := Lib.hid ⟨fun r hr => hw9.1 r (by simp at hr ⊢; exact .inl hr), hw9.2⟩
    obtain ⟨r0, r1, r2, r3, r4, r5, r6, rf0, rf1, rf2, rf3, rf4, rf5, rf6⟩ := Fr.o7 (T9.out.fr w.heap.size [.int .i64 0, .int .i64 0, .int .i64 0, .int .i64 0, .int .i64 0, .int .i64 0, .int .i64 0] (by simp)); obtain ⟨s0, s1, sf0, sf1⟩ := Fr.o2 (T9.out.fr (w.heap.size + 1) [.int .i64 0, .int .i64 0] (by simp))
    clear hw9 hW
    go_region_held3 (fun w' => w'.cell? ⟨w1.heap.size, 0, none⟩ = some (.int .i64 z.k) ∧ w'.cell? ⟨w1.heap.size, 1, none⟩ = some (.int .i64 z.l) ∧ w'.cell? ⟨w1.heap.size, 2, none⟩ = some (.int .i64 z.r) ∧ w'.cell? ⟨w1.heap.size, 3, none⟩ = some (.int .i64 z.a) ∧ w'.cell? ⟨w1.heap.size, 4, none⟩ = some (.int .i64 z.b) ∧ w'.cell? ⟨w1.heap.size, 5, none⟩ = some (.int .i64 z.c) ∧ w'.cell? ⟨w1.heap.size, 6, none⟩ = some (.int .i64 z.d) ∧ DB [(w1.heap.size, [.int .i64 z.k, .int .i64 z.l, .int .i64 z.r, .int .i64 z.a, .int .i64 z.b, .int .i64 z.c, .int .i64 z.d])] B a len cap w w') ((refine keepX ?_; repeat (first | (with_reducible exact Hid.out (by assumption)) | (with_reducible refine DB.drew ?_) | (with_reducible refine DB.drewN ?_ _) | (with_reducible refine DB.far ?_ _ _ _ (by first | exact Nat.le_refl _ | exact Nat.le_succ _) (by first | exact hx0 | exact hx1)))))
      (first
        | (go_at_call 60; refine (s_l06Draw B a len cap _ (DB.src (show DB [(w1.heap.size, [.int .i64 z.k, .int .i64 z.l, .int .i64 z.r, .int .i64 z.a, .int .i64 z.b, .int .i64 z.c, .int .i64 z.d])] B a len cap w _ from (by repeat (first | (with_reducible exact Hid.out (by assumption)) | (with_reducible refine DB.drew ?_) | (with_reducible refine DB.drewN ?_ _) | (with_reducible refine DB.far ?_ _ _ _ (by first | exact Nat.le_refl _ | exact Nat.le_succ _) (by first | exact hx0 | exact hx1))))))).mono ?_; rintro e w8 ⟨x, y, rfl, px, py, src, gr⟩; have X8 : Hid (DB [(w1.heap.size, [.int .i64 z.k, .int .i64 z.l, .int .i64 z.r, .int .i64 z.a, .int .i64 z.b, .int .i64 z.c, .int .i64 z.d])] B a len cap w w8) := Lib.hid (DB.call (show DB [(w1.heap.size, [.int .i64 z.k, .int .i64 z.l, .int .i64 z.r, .int .i64 z.a, .int .i64 z.b, .int .i64 z.c, .int .i64 z.d])] B a len cap w _ from (by repeat (first | (with_reducible exact Hid.out (by assumption)) | (with_reducible refine DB.drew ?_) | (with_reducible refine DB.drewN ?_ _) | (with_reducible refine DB.far ?_ _ _ _ (by first | exact Nat.le_refl _ | exact Nat.le_succ _) (by first | exact hx0 | exact hx1))))) src gr); have T8 : Hid (DB [(w1.heap.size, [.int .i64 z.k, .int .i64 z.l, .int .i64 z.r, .int .i64 z.a, .int .i64 z.b, .int .i64 z.c, .int .i64 z.d]), (w.heap.size + 1, [.int .i64 0, .int .i64 0]), (w.heap.size, [.int .i64 0, .int .i64 0, .int .i64 0, .int .i64 0, .int .i64 0, .int .i64 0, .int .i64 0])] B a len cap w w8) := Lib.hid (DB.call (show DB [(w1.heap.size, [.int .i64 z.k, .int .i64 z.l, .int .i64 z.r, .int .i64 z.a, .int .i64 z.b, .int .i64 z.c, .int .i64 z.d]), (w.heap.size + 1, [.int .i64 0, .int .i64 0]), (w.heap.size, [.int .i64 0, .int .i64 0, .int .i64 0, .int .i64 0, .int .i64 0, .int .i64 0, .int .i64 0])] B a len cap w _ from (by repeat (first | (with_reducible exact Hid.out (by assumption)) | (with_reducible refine DB.drew ?_) | (with_reducible refine DB.drewN ?_ _)))) src gr); obtain ⟨r0, r1, r2, r3, r4, r5, r6, rf0, rf1, rf2, rf3, rf4, rf5, rf6⟩ := Fr.o7 (T8.out.fr w.heap.size [.int .i64 0, .int .i64 0, .int .i64 0, .int .i64 0, .int .i64 0, .int .i64 0, .int .i64 0] (by simp)); obtain ⟨s0, s1, sf0, sf1⟩ := Fr.o2 (T8.out.fr (w.heap.size + 1) [.int .i64 0, .int .i64 0] (by simp)); clear src gr))
    all_goals
      go_wp2_with fail
      refine bodyPost_ret (v := .tuple #[.agg #[.int .i64 z.k, .int .i64 z.l, .int .i64 z.r, .int .i64 z.a, .int .i64 z.b, .int .i64 z.c, .int .i64 z.d], .agg #[.int .i64 x, .int .i64 y]]) (by simp [results, Try.results84, go_sem, *]) rfl ⟨z, x, y, rfl, (by first | exact fin_st (((fin7 (DB.st T8.out) w.heap.size (Nat.le_refl _) _ _ _ _ _ _ _).set (w.heap.size + 1) 0 (.int .i64 x) (Nat.le_succ _) (fun x hx => by simp at hx)).set (w.heap.size + 1) 1 (.int .i64 y) (Nat.le_succ _) (fun x hx => by simp at hx)) | exact fin_st ((((fin7 (DB.st T8.out) w.heap.size (Nat.le_refl _) _ _ _ _ _ _ _).set (w.heap.size + 1) 0 (.int .i64 x) (Nat.le_succ _) (fun x hx => by simp at hx)).set (w.heap.size + 1) 1 (.int .i64 y) (Nat.le_succ _) (fun x hx => by simp at hx)).drew))⟩
  · rintro e w2 ⟨rfl, hb⟩
    have T4 := Lib.hid (T3.out.later hb)
    clear hb T3
    obtain ⟨x0, x1, x2, x3, x4, x5, x6, _⟩ := Fr.o7 (T4.out.fr w1.heap.size [.int .i64 z.k, .int .i64 z.l, .int .i64 z.r, .int .i64 z.a, .int .i64 z.b, .int .i64 z.c, .int .i64 z.d] (by simp))
    go_wp2_with fail
    cases hbk : brk z.k
    · refine (s_Brake z _ hbk _).mono ?_
      rintro e w3 ⟨rfl, hb⟩
      have T5 := Lib.hid (T4.out.later hb)
      clear hb T4 x0 x1 x2 x3 x4 x5 x6
      have hW : Hid (DB [(w1.heap.size, [.int .i64 z.k, .int .i64 z.l, .int .i64 z.r, .int .i64 z.a, .int .i64 z.b, .int .i64 z.c, .int .i64 z.d]), (w.heap.size + 1, [.int .i64 0, .int .i64 0]), (w.heap.size, [.int .i64 0, .int .i64 0, .int .i64 0, .int .i64 0, .int .i64 0, .int .i64 0, .int .i64 0])] B a len cap w _) := T5
      go_wp2_with fail
      refine into (fun W => DB [(w1.heap.size, [.int .i64 z.k, .int .i64 z.l, .int .i64 z.r, .int .i64 z.a, .int .i64 z.b, .int .i64 z.c, .int .i64 z.d]), (w.heap.size + 1, [.int .i64 0, .int .i64 0]), (w.heap.size, [.int .i64 0, .int .i64 0, .int .i64 0, .int .i64 0, .int .i64 0, .int .i64 0, .int .i64 0])] B a len cap w W) (by repeat (first | (with_reducible exact Hid.out (by assumption)) | (with_reducible refine DB.drew ?_) | (with_reducible refine DB.drewN ?_ _))) ?_
      intro W hw9
      have T9 := Lib.hid hw9
      have X9 : Hid (DB [(w1.heap.size, [.int .i64 z.k, .int .i64 z.l, .int .i64 z.r, .int .i64 z.a, .int .i64 z.b, .int .i64 z.c, .int .i64 z.d])] B a len cap w W) := Lib.hid ⟨fun r hr => hw9.1 r (by simp at hr ⊢; exact .inl hr), hw9.2⟩
      obtain ⟨r0, r1, r2, r3, r4, r5, r6, rf0, rf1, rf2, rf3, rf4, rf5, rf6⟩ := Fr.o7 (T9.out.fr w.heap.size [.int .i64 0, .int .i64 0, .int .i64 0, .int .i64 0, .int .i64 0, .int .i64 0, .int .i64 0] (by simp)); obtain ⟨s0, s1, sf0, sf1⟩ := Fr.o2 (T9.out.fr (w.heap.size + 1) [.int .i64 0, .int .i64 0] (by simp))
      clear hw9 hW
      go_region_held3 (fun w' => w'.cell? ⟨w1.heap.size, 0, none⟩ = some (.int .i64 z.k) ∧ w'.cell? ⟨w1.heap.size, 1, none⟩ = some (.int .i64 z.l) ∧ w'.cell? ⟨w1.heap.size, 2, none⟩ = some (.int .i64 z.r) ∧ w'.cell? ⟨w1.heap.size, 3, none⟩ = some (.int .i64 z.a) ∧ w'.cell? ⟨w1.heap.size, 4, none⟩ = some (.int .i64 z.b) ∧ w'.cell? ⟨w1.heap.size, 5, none⟩ = some (.int .i64 z.c) ∧ w'.cell? ⟨w1.heap.size, 6, none⟩ = some (.int .i64 z.d) ∧ DB [(w1.heap.size, [.int .i64 z.k, .int .i64 z.l, .int .i64 z.r, .int .i64 z.a, .int .i64 z.b, .int .i64 z.c, .int .i64 z.d])] B a len cap w w') ((refine keepX ?_; repeat (first | (with_reducible exact Hid.out (by assumption)) | (with_reducible refine DB.drew ?_) | (with_reducible refine DB.drewN ?_ _) | (with_reducible refine DB.far ?_ _ _ _ (by first | exact Nat.le_refl _ | exact Nat.le_succ _) (by first | exact hx0 | exact hx1)))))
        (first
          | (go_at_call 60; refine (s_l06Draw B a len cap _ (DB.src (show DB [(w1.heap.size, [.int .i64 z.k, .int .i64 z.l, .int .i64 z.r, .int .i64 z.a, .int .i64 z.b, .int .i64 z.c, .int .i64 z.d])] B a len cap w _ from (by repeat (first | (with_reducible exact Hid.out (by assumption)) | (with_reducible refine DB.drew ?_) | (with_reducible refine DB.drewN ?_ _) | (with_reducible refine DB.far ?_ _ _ _ (by first | exact Nat.le_refl _ | exact Nat.le_succ _) (by first | exact hx0 | exact hx1))))))).mono ?_; rintro e w8 ⟨x, y, rfl, px, py, src, gr⟩; have X8 : Hid (DB [(w1.heap.size, [.int .i64 z.k, .int .i64 z.l, .int .i64 z.r, .int .i64 z.a, .int .i64 z.b, .int .i64 z.c, .int .i64 z.d])] B a len cap w w8) := Lib.hid (DB.call (show DB [(w1.heap.size, [.int .i64 z.k, .int .i64 z.l, .int .i64 z.r, .int .i64 z.a, .int .i64 z.b, .int .i64 z.c, .int .i64 z.d])] B a len cap w _ from (by repeat (first | (with_reducible exact Hid.out (by assumption)) | (with_reducible refine DB.drew ?_) | (with_reducible refine DB.drewN ?_ _) | (with_reducible refine DB.far ?_ _ _ _ (by first | exact Nat.le_refl _ | exact Nat.le_succ _) (by first | exact hx0 | exact hx1))))) src gr); have T8 : Hid (DB [(w1.heap.size, [.int .i64 z.k, .int .i64 z.l, .int .i64 z.r, .int .i64 z.a, .int .i64 z.b, .int .i64 z.c, .int .i64 z.d]), (w.heap.size + 1, [.int .i64 0, .int .i64 0]), (w.heap.size, [.int .i64 0, .int .i64 0, .int .i64 0, .int .i64 0, .int .i64 0, .int .i64 0, .int .i64 0])] B a len cap w w8) := Lib.hid (DB.call (show DB [(w1.heap.size, [.int .i64 z.k, .int .i64 z.l, .int .i64 z.r, .int .i64 z.a, .int .i64 z.b, .int .i64 z.c, .int .i64 z.d]), (w.heap.size + 1, [.int .i64 0, .int .i64 0]), (w.heap.size, [.int .i64 0, .int .i64 0, .int .i64 0, .int .i64 0, .int .i64 0, .int .i64 0, .int .i64 0])] B a len cap w _ from (by repeat (first | (with_reducible exact Hid.out (by assumption)) | (with_reducible refine DB.drew ?_) | (with_reducible refine DB.drewN ?_ _)))) src gr); obtain ⟨r0, r1, r2, r3, r4, r5, r6, rf0, rf1, rf2, rf3, rf4, rf5, rf6⟩ := Fr.o7 (T8.out.fr w.heap.size [.int .i64 0, .int .i64 0, .int .i64 0, .int .i64 0, .int .i64 0, .int .i64 0, .int .i64 0] (by simp)); obtain ⟨s0, s1, sf0, sf1⟩ := Fr.o2 (T8.out.fr (w.heap.size + 1) [.int .i64 0, .int .i64 0] (by simp)); clear src gr))
      all_goals
        go_wp2_with fail
        refine bodyPost_ret (v := .tuple #[.agg #[.int .i64 z.k, .int .i64 z.l, .int .i64 z.r, .int .i64 z.a, .int .i64 z.b, .int .i64 z.c, .int .i64 z.d], .agg #[.int .i64 x, .int .i64 y]]) (by simp [results, Try.results84, go_sem, *]) rfl ⟨z, x, y, rfl, (by first | exact fin_st (((fin7 (DB.st T8.out) w.heap.size (Nat.le_refl _) _ _ _ _ _ _ _).set (w.heap.size + 1) 0 (.int .i64 x) (Nat.le_succ _) (fun x hx => by simp at hx)).set (w.heap.size + 1) 1 (.int .i64 y) (Nat.le_succ _) (fun x hx => by simp at hx)) | exact fin_st ((((fin7 (DB.st T8.out) w.heap.size (Nat.le_refl _) _ _ _ _ _ _ _).set (w.heap.size + 1) 0 (.int .i64 x) (Nat.le_succ _) (fun x hx => by simp at hx)).set (w.heap.size + 1) 1 (.int .i64 y) (Nat.le_succ _) (fun x hx => by simp at hx)).drew))⟩
    · refine (s_Brake z _ hbk _).mono ?_
      rintro e w3 ⟨rfl, hb⟩
      have T5 := Lib.hid (T4.out.later hb)
      clear hb T4 x0 x1 x2 x3 x4 x5 x6
      go_wp2_with fail
      refine (s_Next B a len cap 2 _ T5.out.src (by omega) (by omega)).mono ?_
      rintro e w4 ⟨c, rfl, v0, v1, v2, src, gr⟩
      have T6 := Lib.hid (T5.out.call src gr)
      clear src gr v1 v2 T5
      by_cases hc : c = 0
      · subst hc
        obtain ⟨x0, x1, x2, x3, x4, x5, x6, _⟩ := Fr.o7 (T6.out.fr w1.heap.size [.int .i64 z.k, .int .i64 z.l, .int .i64 z.r, .int .i64 z.a, .int .i64 z.b, .int .i64 z.c, .int .i64 z.d] (by simp))
        obtain ⟨wb1, wb2, wb3⟩ := wk_bd z hsg
        have HWK := s_Work z w4 hsg
        generalize wkL z = p at *
        generalize wkH z = q at *
        go_wp2_with fail
        refine HWK.mono ?_
        rintro e w5 ⟨rfl, hb⟩
        have T7 : Hid (DB [(w5.heap.size, [.int .i64 p, .int .i64 q]), (w1.heap.size, [.int .i64 z.k, .int .i64 z.l, .int .i64 z.r, .int .i64 z.a, .int .i64 z.b, .int .i64 z.c, .int .i64 z.d]), (w.heap.size + 1, [.int .i64 0, .int .i64 0]), (w.heap.size, [.int .i64 0, .int .i64 0, .int .i64 0, .int .i64 0, .int .i64 0, .int .i64 0, .int .i64 0])] B a len cap w (w5.alloc (.cells #[.int .i64 p, .int .i64 q] 25))) := Lib.hid ((T6.out.later hb).box [.int .i64 p, .int .i64 q] 25 _ rfl)
        clear hb x0 x1 x2 x3 x4 x5 x6 HWK T6
        go_upto_region 4 with fail
        go_cut [6] (fun s W => ∃ e9 : Int, s = .int .i64 e9 ∧ 0 ≤ e9 ∧ e9 ≤ 40000000000 ∧ DB [(w1.heap.size, [.int .i64 z.k, .int .i64 z.l, .int .i64 z.r, .int .i64 z.a, .int .i64 z.b, .int .i64 z.c, .int .i64 z.d]), (w.heap.size + 1, [.int .i64 0, .int .i64 0]), (w.heap.size, [.int .i64 0, .int .i64 0, .int .i64 0, .int .i64 0, .int .i64 0, .int .i64 0, .int .i64 0])] B a len cap w W)
        case first =>
          obtain ⟨g0, g1, _⟩ := Fr.o2 (T7.out.fr w5.heap.size [.int .i64 p, .int .i64 q] (by simp))
          have d1 := tdiv_bd p 2 20000000000 (by omega) (by omega)
          have k1 : IntKind.i64.wrap (p + 1) = p + 1 := IntWalk.i64_in _ ⟨by omega, by omega⟩
          have k2 : IntKind.i64.wrap (q + 1) = q + 1 := IntWalk.i64_in _ ⟨by omega, by omega⟩
          have k3 : IntKind.i64.wrap (p.tdiv 2) = p.tdiv 2 := IntWalk.i64_in _ ⟨by omega, by omega⟩
          have hlv := sl_new (w5.alloc (.cells #[.int .i64 p, .int .i64 q] 25)) [p, p + 1, q, q + 1, p.tdiv 2] 2 (by simp) (by intro x hx; simp at hx; unfold InR; omega)
          rw [World.size_alloc] at hlv
          have hBl := T7.out.src.lt
          rw [World.size_alloc] at hBl
          have hBw := T7.out.st.lt
          have hz5 : w.heap.size ≤ w5.heap.size := by have := T7.out.st.le; rw [World.size_alloc] at this; have := (T7.out.1 (w5.heap.size, [.int .i64 p, .int .i64 q]) (by simp)).1; exact this
          generalize hR : p.tdiv 2 = r2 at *
          go_wp2_with fail
          refine (s_Pick B a len cap ⟨w5.heap.size + 1, 0, none⟩ 5 5 _ _ (T7.out.src.alloc _) hlv (by show w5.heap.size + 1 ≠ B; omega) (by omega)).mono ?_
          rintro e w6 ⟨r, rfl, hr, src, gr⟩
          have T8 := Lib.hid (DB.fewer ((T7.out.later ((Later.refl _).alloc _)).call src gr))
          have hr1 : r ≤ 40000000000 := by simp at hr; omega
          have hr2 : -40000000000 ≤ r := by simp at hr; omega
          clear src gr hlv hr
          go_wp2_with fail
          all_goals
            go_meet
            exact ⟨_, rfl, by omega, by omega, T8.out⟩
        case rest =>
          obtain ⟨e9, rfl, hh0, hh1, hw9⟩ := hcut
          have T9 := Lib.hid hw9
          have X9 : Hid (DB [(w1.heap.size, [.int .i64 z.k, .int .i64 z.l, .int .i64 z.r, .int .i64 z.a, .int .i64 z.b, .int .i64 z.c, .int .i64 z.d])] B a len cap w wc) := Lib.hid ⟨fun r hr => hw9.1 r (by simp at hr ⊢; exact .inl hr), hw9.2⟩
          obtain ⟨r0, r1, r2, r3, r4, r5, r6, rf0, rf1, rf2, rf3, rf4, rf5, rf6⟩ := Fr.o7 (T9.out.fr w.heap.size [.int .i64 0, .int .i64 0, .int .i64 0, .int .i64 0, .int .i64 0, .int .i64 0, .int .i64 0] (by simp)); obtain ⟨s0, s1, sf0, sf1⟩ := Fr.o2 (T9.out.fr (w.heap.size + 1) [.int .i64 0, .int .i64 0] (by simp))
          clear hw9 T7
          have hfirst : True := trivial
          go_upto_region 5 with fail
          go_cut [] (fun W' => ∃ y0 : Int, DB [(w.heap.size + 1, [.int .i64 y0, .int .i64 e9]), (w.heap.size, [.int .i64 z.k, .int .i64 z.l, .int .i64 z.r, .int .i64 z.a, .int .i64 z.b, .int .i64 z.c, .int .i64 z.d])] B a len cap w W')
          case first =>
            go_region_held3 (fun w' => w'.cell? ⟨w1.heap.size, 0, none⟩ = some (.int .i64 z.k) ∧ w'.cell? ⟨w1.heap.size, 1, none⟩ = some (.int .i64 z.l) ∧ w'.cell? ⟨w1.heap.size, 2, none⟩ = some (.int .i64 z.r) ∧ w'.cell? ⟨w1.heap.size, 3, none⟩ = some (.int .i64 z.a) ∧ w'.cell? ⟨w1.heap.size, 4, none⟩ = some (.int .i64 z.b) ∧ w'.cell? ⟨w1.heap.size, 5, none⟩ = some (.int .i64 z.c) ∧ w'.cell? ⟨w1.heap.size, 6, none⟩ = some (.int .i64 z.d) ∧ DB [(w1.heap.size, [.int .i64 z.k, .int .i64 z.l, .int .i64 z.r, .int .i64 z.a, .int .i64 z.b, .int .i64 z.c, .int .i64 z.d])] B a len cap w w') ((refine keepX ?_; repeat (first | (with_reducible exact Hid.out (by assumption)) | (with_reducible refine DB.drew ?_) | (with_reducible refine DB.drewN ?_ _) | (with_reducible refine DB.far ?_ _ _ _ (by first | exact Nat.le_refl _ | exact Nat.le_succ _) (by first | exact hx0 | exact hx1)))))
              (first
                | (clear hfirst; go_at_call 58; refine (s_Next B a len cap _ _ (DB.src (show DB [(w1.heap.size, [.int .i64 z.k, .int .i64 z.l, .int .i64 z.r, .int .i64 z.a, .int .i64 z.b, .int .i64 z.c, .int .i64 z.d])] B a len cap w _ from (by repeat (first | (with_reducible exact Hid.out (by assumption)) | (with_reducible refine DB.drew ?_) | (with_reducible refine DB.drewN ?_ _) | (with_reducible refine DB.far ?_ _ _ _ (by first | exact Nat.le_refl _ | exact Nat.le_succ _) (by first | exact hx0 | exact hx1)))))) (by omega) (by omega)).mono ?_; rintro e w7 ⟨u, rfl, u0, u1, u2, src, gr⟩; have hu := u1 (by omega); have X7 : Hid (DB [(w1.heap.size, [.int .i64 z.k, .int .i64 z.l, .int .i64 z.r, .int .i64 z.a, .int .i64 z.b, .int .i64 z.c, .int .i64 z.d])] B a len cap w w7) := Lib.hid (DB.call (show DB [(w1.heap.size, [.int .i64 z.k, .int .i64 z.l, .int .i64 z.r, .int .i64 z.a, .int .i64 z.b, .int .i64 z.c, .int .i64 z.d])] B a len cap w _ from (by repeat (first | (with_reducible exact Hid.out (by assumption)) | (with_reducible refine DB.drew ?_) | (with_reducible refine DB.drewN ?_ _) | (with_reducible refine DB.far ?_ _ _ _ (by first | exact Nat.le_refl _ | exact Nat.le_succ _) (by first | exact hx0 | exact hx1))))) src gr); have T7 : Hid (DB [(w1.heap.size, [.int .i64 z.k, .int .i64 z.l, .int .i64 z.r, .int .i64 z.a, .int .i64 z.b, .int .i64 z.c, .int .i64 z.d]), (w.heap.size + 1, [.int .i64 0, .int .i64 0]), (w.heap.size, [.int .i64 0, .int .i64 0, .int .i64 0, .int .i64 0, .int .i64 0, .int .i64 0, .int .i64 0])] B a len cap w w7) := Lib.hid (DB.call (show DB [(w1.heap.size, [.int .i64 z.k, .int .i64 z.l, .int .i64 z.r, .int .i64 z.a, .int .i64 z.b, .int .i64 z.c, .int .i64 z.d]), (w.heap.size + 1, [.int .i64 0, .int .i64 0]), (w.heap.size, [.int .i64 0, .int .i64 0, .int .i64 0, .int .i64 0, .int .i64 0, .int .i64 0, .int .i64 0])] B a len cap w _ from (by repeat (first | (with_reducible exact Hid.out (by assumption)) | (with_reducible refine DB.drew ?_) | (with_reducible refine DB.drewN ?_ _)))) src gr); clear src gr u1 u2)
                | (go_at_call 58; refine (s_Next B a len cap _ _ (DB.src (show DB [(w1.heap.size, [.int .i64 z.k, .int .i64 z.l, .int .i64 z.r, .int .i64 z.a, .int .i64 z.b, .int .i64 z.c, .int .i64 z.d])] B a len cap w _ from (by repeat (first | (with_reducible exact Hid.out (by assumption)) | (with_reducible refine DB.drew ?_) | (with_reducible refine DB.drewN ?_ _) | (with_reducible refine DB.far ?_ _ _ _ (by first | exact Nat.le_refl _ | exact Nat.le_succ _) (by first | exact hx0 | exact hx1)))))) (by omega) (by omega)).mono ?_; rintro e w8 ⟨v, rfl, v0, v1, v2, src, gr⟩; have hv := v1 (by omega); have huv := uv_bd u v u0 hu v0 hv; have m1 : IntKind.i64.wrap (u * v) = u * v := IntWalk.i64_in _ ⟨by omega, by omega⟩; have m2 : IntKind.i64.wrap (e9 - u * v) = e9 - u * v := IntWalk.i64_in _ ⟨by omega, by omega⟩; have X8 : Hid (DB [(w1.heap.size, [.int .i64 z.k, .int .i64 z.l, .int .i64 z.r, .int .i64 z.a, .int .i64 z.b, .int .i64 z.c, .int .i64 z.d])] B a len cap w w8) := Lib.hid (DB.call (show DB [(w1.heap.size, [.int .i64 z.k, .int .i64 z.l, .int .i64 z.r, .int .i64 z.a, .int .i64 z.b, .int .i64 z.c, .int .i64 z.d])] B a len cap w _ from (by repeat (first | (with_reducible exact Hid.out (by assumption)) | (with_reducible refine DB.drew ?_) | (with_reducible refine DB.drewN ?_ _) | (with_reducible refine DB.far ?_ _ _ _ (by first | exact Nat.le_refl _ | exact Nat.le_succ _) (by first | exact hx0 | exact hx1))))) src gr); have T8 : Hid (DB [(w1.heap.size, [.int .i64 z.k, .int .i64 z.l, .int .i64 z.r, .int .i64 z.a, .int .i64 z.b, .int .i64 z.c, .int .i64 z.d]), (w.heap.size + 1, [.int .i64 0, .int .i64 0]), (w.heap.size, [.int .i64 0, .int .i64 0, .int .i64 0, .int .i64 0, .int .i64 0, .int .i64 0, .int .i64 0])] B a len cap w w8) := Lib.hid (DB.call (show DB [(w1.heap.size, [.int .i64 z.k, .int .i64 z.l, .int .i64 z.r, .int .i64 z.a, .int .i64 z.b, .int .i64 z.c, .int .i64 z.d]), (w.heap.size + 1, [.int .i64 0, .int .i64 0]), (w.heap.size, [.int .i64 0, .int .i64 0, .int .i64 0, .int .i64 0, .int .i64 0, .int .i64 0, .int .i64 0])] B a len cap w _ from (by repeat (first | (with_reducible exact Hid.out (by assumption)) | (with_reducible refine DB.drew ?_) | (with_reducible refine DB.drewN ?_ _)))) src gr); obtain ⟨r0, r1, r2, r3, r4, r5, r6, rf0, rf1, rf2, rf3, rf4, rf5, rf6⟩ := Fr.o7 (T8.out.fr w.heap.size [.int .i64 0, .int .i64 0, .int .i64 0, .int .i64 0, .int .i64 0, .int .i64 0, .int .i64 0] (by simp)); obtain ⟨s0, s1, sf0, sf1⟩ := Fr.o2 (T8.out.fr (w.heap.size + 1) [.int .i64 0, .int .i64 0] (by simp)); clear src gr v1 v2))
            all_goals
              go_wp2_with fail
            all_goals
              go_meet
              first
                | exact ⟨_, setRes T8.out _ _ _ _ _ _ _ _ _⟩
                | exact ⟨_, (setRes T8.out _ _ _ _ _ _ _ _ _).drew⟩
          case rest =>
            obtain ⟨y0, hF⟩ := hcut
            obtain ⟨s0', s1', sf0', sf1'⟩ := Fr.o2 (hF.fr (w.heap.size + 1) [.int .i64 y0, .int .i64 e9] (by simp))
            obtain ⟨c0', c1', c2', c3', c4', c5', c6', _⟩ := Fr.o7 (hF.fr w.heap.size [.int .i64 z.k, .int .i64 z.l, .int .i64 z.r, .int .i64 z.a, .int .i64 z.b, .int .i64 z.c, .int .i64 z.d] (by simp))
            have HFS := Lib.hid hF.st
            clear r0 r1 r2 r3 r4 r5 r6 rf0 rf1 rf2 rf3 rf4 rf5 rf6 s0 s1 sf0 sf1 hF X9 T9
            go_wp2_with fail
            refine bodyPost_ret (v := .tuple #[.agg #[.int .i64 z.k, .int .i64 z.l, .int .i64 z.r, .int .i64 z.a, .int .i64 z.b, .int .i64 z.c, .int .i64 z.d], .agg #[.int .i64 y0, .int .i64 e9]]) (by simp [results, Try.results84, go_sem, *]) rfl ⟨z, y0, e9, rfl, fin_st HFS.out⟩
      · have hcc : (c == 0) = false := by simpa using hc
        have hW : Hid (DB [(w1.heap.size, [.int .i64 z.k, .int .i64 z.l, .int .i64 z.r, .int .i64 z.a, .int .i64 z.b, .int .i64 z.c, .int .i64 z.d]), (w.heap.size + 1, [.int .i64 0, .int .i64 0]), (w.heap.size, [.int .i64 0, .int .i64 0, .int .i64 0, .int .i64 0, .int .i64 0, .int .i64 0, .int .i64 0])] B a len cap w _) := T6
        go_wp2_with fail
        refine into (fun W => DB [(w1.heap.size, [.int .i64 z.k, .int .i64 z.l, .int .i64 z.r, .int .i64 z.a, .int .i64 z.b, .int .i64 z.c, .int .i64 z.d]), (w.heap.size + 1, [.int .i64 0, .int .i64 0]), (w.heap.size, [.int .i64 0, .int .i64 0, .int .i64 0, .int .i64 0, .int .i64 0, .int .i64 0, .int .i64 0])] B a len cap w W) (by repeat (first | (with_reducible exact Hid.out (by assumption)) | (with_reducible refine DB.drew ?_) | (with_reducible refine DB.drewN ?_ _))) ?_
        intro W hw9
        have T9 := Lib.hid hw9
        have X9 : Hid (DB [(w1.heap.size, [.int .i64 z.k, .int .i64 z.l, .int .i64 z.r, .int .i64 z.a, .int .i64 z.b, .int .i64 z.c, .int .i64 z.d])] B a len cap w W) := Lib.hid ⟨fun r hr => hw9.1 r (by simp at hr ⊢; exact .inl hr), hw9.2⟩
        obtain ⟨r0, r1, r2, r3, r4, r5, r6, rf0, rf1, rf2, rf3, rf4, rf5, rf6⟩ := Fr.o7 (T9.out.fr w.heap.size [.int .i64 0, .int .i64 0, .int .i64 0, .int .i64 0, .int .i64 0, .int .i64 0, .int .i64 0] (by simp)); obtain ⟨s0, s1, sf0, sf1⟩ := Fr.o2 (T9.out.fr (w.heap.size + 1) [.int .i64 0, .int .i64 0] (by simp))
        clear hw9 hW
        go_region_held3 (fun w' => w'.cell? ⟨w1.heap.size, 0, none⟩ = some (.int .i64 z.k) ∧ w'.cell? ⟨w1.heap.size, 1, none⟩ = some (.int .i64 z.l) ∧ w'.cell? ⟨w1.heap.size, 2, none⟩ = some (.int .i64 z.r) ∧ w'.cell? ⟨w1.heap.size, 3, none⟩ = some (.int .i64 z.a) ∧ w'.cell? ⟨w1.heap.size, 4, none⟩ = some (.int .i64 z.b) ∧ w'.cell? ⟨w1.heap.size, 5, none⟩ = some (.int .i64 z.c) ∧ w'.cell? ⟨w1.heap.size, 6, none⟩ = some (.int .i64 z.d) ∧ DB [(w1.heap.size, [.int .i64 z.k, .int .i64 z.l, .int .i64 z.r, .int .i64 z.a, .int .i64 z.b, .int .i64 z.c, .int .i64 z.d])] B a len cap w w') ((refine keepX ?_; repeat (first | (with_reducible exact Hid.out (by assumption)) | (with_reducible refine DB.drew ?_) | (with_reducible refine DB.drewN ?_ _) | (with_reducible refine DB.far ?_ _ _ _ (by first | exact Nat.le_refl _ | exact Nat.le_succ _) (by first | exact hx0 | exact hx1)))))
          (first
            | (go_at_call 60; refine (s_l06Draw B a len cap _ (DB.src (show DB [(w1.heap.size, [.int .i64 z.k, .int .i64 z.l, .int .i64 z.r, .int .i64 z.a, .int .i64 z.b, .int .i64 z.c, .int .i64 z.d])] B a len cap w _ from (by repeat (first | (with_reducible exact Hid.out (by assumption)) | (with_reducible refine DB.drew ?_) | (with_reducible refine DB.drewN ?_ _) | (with_reducible refine DB.far ?_ _ _ _ (by first | exact Nat.le_refl _ | exact Nat.le_succ _) (by first | exact hx0 | exact hx1))))))).mono ?_; rintro e w8 ⟨x, y, rfl, px, py, src, gr⟩; have X8 : Hid (DB [(w1.heap.size, [.int .i64 z.k, .int .i64 z.l, .int .i64 z.r, .int .i64 z.a, .int .i64 z.b, .int .i64 z.c, .int .i64 z.d])] B a len cap w w8) := Lib.hid (DB.call (show DB [(w1.heap.size, [.int .i64 z.k, .int .i64 z.l, .int .i64 z.r, .int .i64 z.a, .int .i64 z.b, .int .i64 z.c, .int .i64 z.d])] B a len cap w _ from (by repeat (first | (with_reducible exact Hid.out (by assumption)) | (with_reducible refine DB.drew ?_) | (with_reducible refine DB.drewN ?_ _) | (with_reducible refine DB.far ?_ _ _ _ (by first | exact Nat.le_refl _ | exact Nat.le_succ _) (by first | exact hx0 | exact hx1))))) src gr); have T8 : Hid (DB [(w1.heap.size, [.int .i64 z.k, .int .i64 z.l, .int .i64 z.r, .int .i64 z.a, .int .i64 z.b, .int .i64 z.c, .int .i64 z.d]), (w.heap.size + 1, [.int .i64 0, .int .i64 0]), (w.heap.size, [.int .i64 0, .int .i64 0, .int .i64 0, .int .i64 0, .int .i64 0, .int .i64 0, .int .i64 0])] B a len cap w w8) := Lib.hid (DB.call (show DB [(w1.heap.size, [.int .i64 z.k, .int .i64 z.l, .int .i64 z.r, .int .i64 z.a, .int .i64 z.b, .int .i64 z.c, .int .i64 z.d]), (w.heap.size + 1, [.int .i64 0, .int .i64 0]), (w.heap.size, [.int .i64 0, .int .i64 0, .int .i64 0, .int .i64 0, .int .i64 0, .int .i64 0, .int .i64 0])] B a len cap w _ from (by repeat (first | (with_reducible exact Hid.out (by assumption)) | (with_reducible refine DB.drew ?_) | (with_reducible refine DB.drewN ?_ _)))) src gr); obtain ⟨r0, r1, r2, r3, r4, r5, r6, rf0, rf1, rf2, rf3, rf4, rf5, rf6⟩ := Fr.o7 (T8.out.fr w.heap.size [.int .i64 0, .int .i64 0, .int .i64 0, .int .i64 0, .int .i64 0, .int .i64 0, .int .i64 0] (by simp)); obtain ⟨s0, s1, sf0, sf1⟩ := Fr.o2 (T8.out.fr (w.heap.size + 1) [.int .i64 0, .int .i64 0] (by simp)); clear src gr))
        all_goals
          go_wp2_with fail
          refine bodyPost_ret (v := .tuple #[.agg #[.int .i64 z.k, .int .i64 z.l, .int .i64 z.r, .int .i64 z.a, .int .i64 z.b, .int .i64 z.c, .int .i64 z.d], .agg #[.int .i64 x, .int .i64 y]]) (by simp [results, Try.results84, go_sem, *]) rfl ⟨z, x, y, rfl, (by first | exact fin_st (((fin7 (DB.st T8.out) w.heap.size (Nat.le_refl _) _ _ _ _ _ _ _).set (w.heap.size + 1) 0 (.int .i64 x) (Nat.le_succ _) (fun x hx => by simp at hx)).set (w.heap.size + 1) 1 (.int .i64 y) (Nat.le_succ _) (fun x hx => by simp at hx)) | exact fin_st ((((fin7 (DB.st T8.out) w.heap.size (Nat.le_refl _) _ _ _ _ _ _ _).set (w.heap.size + 1) 0 (.int .i64 x) (Nat.le_succ _) (fun x hx => by simp at hx)).set (w.heap.size + 1) 1 (.int .i64 y) (Nat.le_succ _) (fun x hx => by simp at hx)).drew))⟩
/-- a drawn segment and an energy, for a law -/
def OneZ (w : World) (e : Ending) (w' : World) : Prop :=
  ∃ (z : Sg) (x y : Int), e = .returned (.tuple #[.agg #[.int .i64 z.k, .int .i64 z.l, .int .i64 z.r, .int .i64 z.a, .int .i64 z.b, .int .i64 z.c, .int .i64 z.d], .agg #[.int .i64 x, .int .i64 y]]) ∧ Later w w'
set_option maxRecDepth 100000 in
theorem s_DrawStoppingDistance (a : Option Addr) (len cap : Nat) (w : World) (hs : Bytes w a len) :
    Calls Try.prog 40 #[.slice a len cap] w (OneZ w) := by
  have HS := Lib.hid hs
  clear hs
  go_enter Try.func40, Try.ntmps40
  go_wp2_with fail
  refine (s_From a len cap _ (HS.out.later (((Later.refl _).alloc _).alloc _))).mono ?_
  rintro e w1 ⟨rfl, src, lt, bel⟩
  have F1 := fr_later (fr_later (fr_alloc (X := w) (l := [.int .i64 0, .int .i64 0, .int .i64 0, .int .i64 0, .int .i64 0, .int .i64 0, .int .i64 0]) (T := 27) (Later.refl _)) ((Later.refl _).alloc (.cells #[.int .i64 0, .int .i64 0] 25))) bel
  have F2 := fr_later (fr_alloc (X := w.alloc (.cells #[.int .i64 0, .int .i64 0, .int .i64 0, .int .i64 0, .int .i64 0, .int .i64 0, .int .i64 0] 27)) (l := [.int .i64 0, .int .i64 0]) (T := 25) (Later.refl _)) bel
  have B1 : Hid (Later w w1) := Lib.hid (Later.trans (((Later.refl _).alloc _).alloc _) bel)
  rw [World.size_alloc] at F2
  rw [World.size_alloc, World.size_alloc] at src lt ⊢
  have S1 := Lib.hid src
  clear src bel
  go_wp2_with fail
  refine (s_DrawStop (w.heap.size + 1 + 1) a len cap _ S1.out).mono ?_
  rintro e w2 ⟨z, x, y, rfl, src, gr⟩
  have B2 : Hid (Later w w2) := Lib.hid (Below.grown B1.out gr B1.out.size (fun k h => by have := Option.some.inj h; omega))
  have G1 := fr_keptD F1 gr (fun e => by have := Option.some.inj e; omega)
  have G2 := fr_keptD F2 gr (fun e => by have := Option.some.inj e; omega)
  obtain ⟨c0, c1, c2, c3, c4, c5, c6, f0, f1, f2, f3, f4, f5, f6⟩ := Fr.o7 G1
  obtain ⟨d0, d1, g0, g1⟩ := Fr.o2 G2
  clear src gr F1 F2 G1 G2
  go_wp2_with fail
  refine bodyPost_ret (v := .tuple #[.agg #[.int .i64 z.k, .int .i64 z.l, .int .i64 z.r, .int .i64 z.a, .int .i64 z.b, .int .i64 z.c, .int .i64 z.d], .agg #[.int .i64 x, .int .i64 y]]) (by simp [results, Try.results40, go_sem, *]) rfl ⟨z, x, y, rfl, ?_⟩
  repeat (first | (with_reducible exact B2.out) | (refine Later.setCell ?_ (by simp) _))
end Go.Proofs.Ytdhoiiejcmnmbaa
namespace Go.Proofs.Ytdhoiiejcmnmbaa
set_option linter.unusedSimpArgs false
set_option linter.unusedVariables false
/-- the bounds of the energy behind a segment whose device is on -/
def acL (x : Sg) (a : Int) : Int := if x.k = 1 then x.c * x.c else if x.k = 2 then a + chL x + fcL x else if x.k = 3 ∨ x.k = 4 then a + chL x - fcH x else a + chL x
def acH (x : Sg) (b : Int) : Int := if x.k = 1 then x.d * x.d else if x.k = 2 then b + chH x + fcH x else if x.k = 3 ∨ x.k = 4 then b + chH x - fcL x else b + chH x
theorem sq_bd (c d : Int) (h1 : 0 ≤ c) (h2 : c ≤ d) (h3 : d ≤ 20000) : 0 ≤ c * c ∧ c * c ≤ d * d ∧ d * d ≤ 400000000 := by
  refine ⟨Int.mul_nonneg h1 h1, sq_mono c d h1 h2, ?_⟩
  have := sq_mono d 20000 (by omega) h3
  omega
theorem ac_bd (x : Sg) (a b : Int) (h : sgB x = true) (h2 : enB a b = true) : -20000000000 ≤ acL x a ∧ acL x a ≤ acH x b ∧ acH x b ≤ 20000000000 := by
  have c := ch_bd x h
  have f := fc_bd x h
  have e := (enB_iff a b).1 h2
  have s := sq_bd x.c x.d f.1 f.2.1 f.2.2.1
  unfold acL acH
  by_cases h1 : x.k = 1
  · simp only [if_pos h1]; omega
  · simp only [if_neg h1]
    by_cases h2 : x.k = 2
    · simp only [if_pos h2]; omega
    · simp only [if_neg h2]
      by_cases h3 : x.k = 3 ∨ x.k = 4
      · simp only [if_pos h3]; omega
      · simp only [if_neg h3]; omega
/-- the energy behind a segment whose device is on: code, bounds -/
def avE (x : Sg) (a b : Int) : Int := if (sgB x && enB a b) = true then codE (acL x a) (acH x b) else 1
def avL (x : Sg) (a b : Int) : Int := okV (avE x a b) (acL x a)
def avH (x : Sg) (a b : Int) : Int := okV (avE x a b) (acH x b)
/-- the least force of a launch -/
def lfF (x : Sg) (a t : Int) : Int := max 0 (cei (t - (a + chL x)) (2 * x.l))
def lfE (x : Sg) (a b t : Int) : Int := if (sgB x && enB a b) = true then (if 0 ≤ t ∧ t ≤ 10000000000 then (if x.k = 2 then (if lfF x a t ≤ x.c then 0 else 4) else 5) else 2) else 1
def lfV (x : Sg) (a b t : Int) : Int := okV (lfE x a b t) (lfF x a t)
/-- how far a train comes that turns back -/
def tdE (x : Sg) (a b : Int) : Int := if (sgB x && enB a b) = true then (if b + chH x < 0 then 0 else 5) else 1
def tdL (x : Sg) (a b : Int) : Int := okV (tdE x a b) (flo (a * x.l) (-chL x))
def tdH (x : Sg) (a b : Int) : Int := okV (tdE x a b) (cei (b * x.l) (-chH x))
/-- the times on a lift -/
def ltE (x : Sg) : Int := if sgB x = true then (if x.k = 1 then 0 else 5) else 1
def ltL (x : Sg) : Int := okV (ltE x) (flo (1000 * x.l) x.d)
def ltH (x : Sg) : Int := okV (ltE x) (cei (1000 * x.l) x.c)
/-- the change is even -/
theorem ch_even (x : Sg) : (chL x) % 2 = 0 ∧ (chH x) % 2 = 0 := by
  have e1 : kH x = 2 * (x.b * x.l) := by unfold kH; rw [Int.mul_left_comm]
  have e2 : kL x = 2 * (x.a * x.l) := by unfold kL; rw [Int.mul_left_comm]
  unfold chL chH
  rw [e1, e2]
  omega
theorem cei_spec (a b : Int) (hb : 0 < b) : a ≤ cei a b * b ∧ (cei a b - 1) * b < a := by
  rw [cei_eq a b (by omega)]
  have f := flo_spec (-a) b hb
  obtain ⟨f1, f2⟩ := f
  have e1 : -flo (-a) b * b = -(flo (-a) b * b) := by rw [Int.neg_mul]
  have e2 : (-flo (-a) b - 1) * b = -((flo (-a) b + 1) * b) := by
    rw [show -flo (-a) b - 1 = -(flo (-a) b + 1) by omega, Int.neg_mul]
  rw [e1, e2]
  omega
theorem lt_or_geI (a b : Int) : a < b ∨ b ≤ a := by omega
theorem cei_le (a b q : Int) (hb : 0 < b) (h : a ≤ q * b) : cei a b ≤ q := by
  have := (cei_spec a b hb).2
  rcases lt_or_geI q (cei a b) with c | c
  · have := Int.mul_le_mul_of_nonneg_right (show q ≤ cei a b - 1 by omega) (show 0 ≤ b by omega); omega
  · exact c
theorem flo_le (a b q : Int) (hb : 0 < b) (h : a < (q + 1) * b) : flo a b ≤ q := by
  have := (flo_spec a b hb).1
  rcases lt_or_geI q (flo a b) with c | c
  · have := Int.mul_le_mul_of_nonneg_right (show q + 1 ≤ flo a b by omega) (show 0 ≤ b by omega); omega
  · exact c
theorem flo_nn0 (a b : Int) (ha : 0 ≤ a) (hb : 0 < b) : 0 ≤ flo a b := by
  have := (flo_spec a b hb).2
  rcases lt_or_geI (flo a b) 0 with c | c
  · have := Int.mul_le_mul_of_nonneg_right (show flo a b + 1 ≤ 0 by omega) (show 0 ≤ b by omega); omega
  · exact c
/-- a quotient rounded down by a greater number is at most one rounded up by a smaller one -/
theorem flo_cei (a b p q : Int) (ha : 0 ≤ a) (hab : a ≤ b) (hq : 0 < q) (hqp : q ≤ p) : flo a p ≤ cei b q := by
  have f := (flo_spec a p (by omega)).1
  have c := (cei_spec b q hq).1
  have n0 := flo_nn0 a p ha (by omega)
  rcases lt_or_geI (cei b q) (flo a p) with d | d
  · have h1 := Int.mul_le_mul_of_nonneg_left hqp n0
    have h2 := Int.mul_le_mul_of_nonneg_right (show cei b q + 1 ≤ flo a p by omega) (show 0 ≤ q by omega)
    rw [Int.add_mul] at h2
    omega
  · exact d
/-- what the law on turning trains says -/
theorem td_facts {x : Sg} {a b : Int} (h : tdE x a b = 0) : pvE x a b = 0 ∧ pvV x a b = 0 ∧ 0 ≤ tdL x a b ∧ tdL x a b ≤ tdH x a b ∧ tdH x a b ≤ x.l := by
  have h0 := h
  unfold tdE at h
  split at h
  · rename_i hb
    split at h
    · rename_i hn
      have hs : sgB x = true := by simp at hb; exact hb.1
      have he : enB a b = true := by simp at hb; exact hb.2
      have c := ch_bd x hs
      have e := (enB_iff a b).1 he
      have l := ((sgB_iff x).1 hs).2.1
      have al := nn_mul a x.l (by omega) (by omega) l.1 l.2
      have bl := nn_mul b x.l (by omega) (by omega) l.1 l.2
      have abl : a * x.l ≤ b * x.l := Int.mul_le_mul_of_nonneg_right e.2.1 (by omega)
      unfold tdL tdH pvE pvV inE okV
      rw [h0, hb]
      simp only [if_true]
      refine ⟨by simp, ?_, flo_nn0 _ _ al.1 (by omega), flo_cei _ _ _ _ al.1 abl (by omega) (by omega), cei_le _ _ _ (by omega) ?_⟩
      · unfold vrd; rw [if_neg (by omega), if_pos hn]
      · rw [Int.mul_comm x.l]
        exact Int.mul_le_mul_of_nonneg_right (by omega) (by omega)
    · cases h
  · cases h
theorem lt_facts {x : Sg} (h : ltE x = 0) : ltL x ≤ ltH x := by
  unfold ltL ltH okV
  rw [h]
  simp only [if_true]
  unfold ltE at h
  split at h
  · rename_i hs
    split at h
    · rename_i hk
      have g := (sgB_iff x).1 hs
      have f := g.2.2.2.2.2 (by omega)
      exact flo_cei _ _ _ _ (by omega) (by omega) (by omega) (by omega)
    · cases h
  · cases h
/-- what the law on launches says -/
theorem lf_facts {x : Sg} {a b t : Int} (h : lfE x a b t = 0) : inE (sgB x) = 0 ∧ coL x = chL x ∧ sgB x = true ∧ 0 ≤ a ∧ a ≤ 10000000000 ∧ 0 ≤ t ∧ t ≤ 10000000000 ∧ 0 ≤ lfV x a b t ∧ lfV x a b t ≤ x.c ∧ t ≤ a + chL x + 2 * lfV x a b t * x.l ∧ (lfV x a b t = 0 ∨ a + chL x + 2 * (lfV x a b t - 1) * x.l < t) := by
  have h0 := h
  unfold lfE at h
  split at h
  · rename_i hb
    split at h
    · rename_i ht
      split at h
      · split at h
        · rename_i hk hf
          have hs : sgB x = true := by simp at hb; exact hb.1
          have he : enB a b = true := by simp at hb; exact hb.2
          have e := (enB_iff a b).1 he
          have l := ((sgB_iff x).1 hs).2.1
          have ev : lfV x a b t = lfF x a t := by unfold lfV okV; rw [h0]; rfl
          rw [ev]
          have c := cei_spec (t - (a + chL x)) (2 * x.l) (by omega)
          unfold lfF at *
          obtain ⟨q, hq⟩ : ∃ q, q = cei (t - (a + chL x)) (2 * x.l) := ⟨_, rfl⟩
          rw [← hq] at c hf ⊢
          obtain ⟨c1, c2⟩ := c
          have m1 : q * (2 * x.l) = 2 * q * x.l := by rw [Int.mul_comm 2 x.l, ← Int.mul_assoc, Int.mul_comm (q * x.l), ← Int.mul_assoc]
          have m2 : (q - 1) * (2 * x.l) = 2 * (q - 1) * x.l := by rw [Int.mul_comm 2 x.l, ← Int.mul_assoc, Int.mul_comm ((q - 1) * x.l), ← Int.mul_assoc]
          rw [m1] at c1; rw [m2] at c2
          refine ⟨by rw [hs]; rfl, by unfold coL; rw [if_pos hs], hs, by omega, by omega, by omega, by omega, by omega, hf, ?_, ?_⟩
          · rcases lt_or_geI q 0 with d | d
            · rw [show max 0 q = 0 by omega]
              have : 2 * q * x.l ≤ 0 := by
                have := Int.mul_le_mul_of_nonneg_right (show 2 * q ≤ 0 by omega) (show 0 ≤ x.l by omega); omega
              omega
            · rw [show max 0 q = q by omega]; omega
          · rcases lt_or_geI q 1 with d | d
            · exact .inl (by omega)
            · rw [show max 0 q = q by omega]; exact .inr (by omega)
        · cases h
      · cases h
    · cases h
  · cases h
/-- what the law on devices says -/
theorem av_facts {x : Sg} {a b : Int} (h : avE x a b = 0) :
    (x.k = 1 → avE x 0 0 = 0 ∧ avL x 0 0 = avL x a b ∧ avH x 0 0 = avH x a b) ∧
    (x.k = 2 → afE x a b ≠ 0 ∨ afL x a b < avL x a b ∧ afH x a b < avH x a b) ∧
    (x.k = 0 → afE x a b = 0 ∧ avL x a b = afL x a b ∧ avH x a b = afH x a b) ∧
    (x.k ≠ 0 → x.k ≠ 1 → x.k ≠ 2 → afE x a b = 3 ∨ afE x a b = 0 ∧ avL x a b < afL x a b ∧ avH x a b < afH x a b) := by
  have h0 := h
  unfold avE at h
  split at h
  · rename_i hb
    have hs : sgB x = true := by simp at hb; exact hb.1
    have he : enB a b = true := by simp at hb; exact hb.2
    have e := (enB_iff a b).1 he
    have g := (sgB_iff x).1 hs
    have c := ch_bd x hs
    have f := fc_bd x hs
    have ok := codE_ok _ _ h
    have e1 : avL x a b = acL x a := by unfold avL okV; rw [h0]; rfl
    have e2 : avH x a b = acH x b := by unfold avH okV; rw [h0]; rfl
    have e3 : afE x a b = codE (a + chL x) (b + chH x) := by unfold afE; rw [hb]; rfl
    rw [e1, e2]
    have en0 : enB 0 0 = true := by rw [enB_iff]; omega
    have fpos : x.k ≠ 0 → 1 ≤ fcL x := by
      intro hk
      have hc := (g.2.2.2.2.2 hk).1
      unfold fcL
      have := Int.mul_le_mul hc (show 2 ≤ 2 * x.l by omega) (by omega) (by omega)
      omega
    refine ⟨fun hk => ?_, fun hk => ?_, fun hk => ?_, fun k0 k1 k2 => ?_⟩
    · have a1 : acL x 0 = acL x a := by unfold acL; rw [if_pos hk, if_pos hk]
      have a2 : acH x 0 = acH x b := by unfold acH; rw [if_pos hk, if_pos hk]
      have a3 : avE x 0 0 = 0 := by unfold avE; rw [hs, en0]; simp only [Bool.and_self, if_true]; rw [a1, a2]; exact h
      exact ⟨a3, by unfold avL okV; rw [a3, a1]; rfl, by unfold avH okV; rw [a3, a2]; rfl⟩
    · by_cases hz : afE x a b = 0
      · refine .inr ?_
        have a1 : afL x a b = a + chL x := by unfold afL okV; rw [hz]; rfl
        have a2 : afH x a b = b + chH x := by unfold afH okV; rw [hz]; rfl
        have a3 : acL x a = a + chL x + fcL x := by unfold acL; rw [if_neg (by omega), if_pos hk]
        have a4 : acH x b = b + chH x + fcH x := by unfold acH; rw [if_neg (by omega), if_pos hk]
        have := fpos (by omega)
        rw [a1, a2, a3, a4]; omega
      · exact .inl hz
    · have a3 : acL x a = a + chL x := by unfold acL; rw [if_neg (by omega), if_neg (by omega), if_neg (by omega)]
      have a4 : acH x b = b + chH x := by unfold acH; rw [if_neg (by omega), if_neg (by omega), if_neg (by omega)]
      rw [a3, a4] at h
      have hz : afE x a b = 0 := e3.trans h
      exact ⟨hz, by unfold afL okV; rw [hz, a3]; rfl, by unfold afH okV; rw [hz, a4]; rfl⟩
    · have k34 : x.k = 3 ∨ x.k = 4 := by omega
      have a3 : acL x a = a + chL x - fcH x := by unfold acL; rw [if_neg k1, if_neg k2, if_pos k34]
      have a4 : acH x b = b + chH x - fcL x := by unfold acH; rw [if_neg k1, if_neg k2, if_pos k34]
      have := fpos k0
      rw [a3] at ok
      by_cases hz : b + chH x ≤ 10000000000
      · have hz2 : afE x a b = 0 := by rw [e3]; unfold codE; rw [if_neg (by omega), if_pos hz]
        refine .inr ⟨hz2, ?_, ?_⟩
        · rw [a3]; unfold afL okV; rw [hz2]; simp only [if_true]; omega
        · rw [a4]; unfold afH okV; rw [hz2]; simp only [if_true]; omega
      · exact .inl (by rw [e3]; unfold codE; rw [if_neg (by omega), if_neg hz])
  · cases h
end Go.Proofs.Ytdhoiiejcmnmbaa
namespace Go.Proofs.Ytdhoiiejcmnmbaa
open Go.RowKit
set_option maxHeartbeats 4000000
set_option linter.unusedVariables false
set_option linter.unusedSimpArgs false
theorem i_coasted (x : Sg) (a b : Int) (w : World) (h : sgB x = true) (h2 : enB a b = true) :
    Calls Try.prog 66 #[.agg #[.int .i64 x.k, .int .i64 x.l, .int .i64 x.r, .int .i64 x.a, .int .i64 x.b, .int .i64 x.c, .int .i64 x.d], .agg #[.int .i64 a, .int .i64 b]] w fun e w' => e = .returned (.agg #[.int .i64 (a + chL x), .int .i64 (b + chH x)]) ∧ Later w w' := by
  obtain ⟨c4, c5, c6⟩ := (enB_iff a b).1 h2
  obtain ⟨c1, c2, c3⟩ := ch_bd x h
  obtain ⟨g1, g2, g3, g4, g5, g6⟩ := fc_bd x h
  go_enter Try.func66, Try.ntmps66
  go_upto_region 1 with (fail)
  refine into (fun W => Held [(w.heap.size + 1, 0, .int .i64 a), (w.heap.size + 1, 1, .int .i64 b), (w.heap.size, 0, .int .i64 x.k), (w.heap.size, 1, .int .i64 x.l), (w.heap.size, 2, .int .i64 x.r), (w.heap.size, 3, .int .i64 x.a), (w.heap.size, 4, .int .i64 x.b), (w.heap.size, 5, .int .i64 x.c), (w.heap.size, 6, .int .i64 x.d)] w W ∧ Fr (w.heap.size + 1 + 1) [.int .i64 0, .int .i64 0] W) ⟨?_, ?_⟩ ?_
  · exact ((held_box (held_box (held_start w) (w.heap.size) [.int .i64 x.k, .int .i64 x.l, .int .i64 x.r, .int .i64 x.a, .int .i64 x.b, .int .i64 x.c, .int .i64 x.d] _ (by first | rfl | simp)) (w.heap.size + 1) [.int .i64 a, .int .i64 b] _ (by first | rfl | simp))).alloc _
  · have F := fr_alloc (X := ((w.alloc (.cells [(.int .i64 x.k : Value), .int .i64 x.l, .int .i64 x.r, .int .i64 x.a, .int .i64 x.b, .int .i64 x.c, .int .i64 x.d].toArray 27)).alloc (.cells [(.int .i64 a : Value), .int .i64 b].toArray 25))) (l := [.int .i64 0, .int .i64 0]) (T := 25) (Later.refl _)
    simp only [World.size_alloc] at F
    exact F
  rintro W ⟨hW, hF⟩
  obtain ⟨p0, p1, p2, p3, p4, p5, p6, p7, p8, _⟩ := Held.s9 hW
  have z0 := Held.lt hW (w.heap.size) 0 (.int .i64 x.k) (by simp)
  have z1 := Held.lt hW (w.heap.size + 1) 0 (.int .i64 a) (by simp)
  obtain ⟨r0, r1, r2, r3⟩ := Fr.o2 hF
  have zr := Fr.lt hF
  clear p0 p1 p2 p3 p4 p5 p6 p7 p8 r0 r1 r2 r3
  have F := hF
  go_region_held3 (fun w' => w'.cell? ⟨w.heap.size + 1, 0, none⟩ = some (.int .i64 a) ∧ w'.cell? ⟨w.heap.size + 1, 1, none⟩ = some (.int .i64 b) ∧ w'.cell? ⟨w.heap.size, 0, none⟩ = some (.int .i64 x.k) ∧ w'.cell? ⟨w.heap.size, 1, none⟩ = some (.int .i64 x.l) ∧ w'.cell? ⟨w.heap.size, 2, none⟩ = some (.int .i64 x.r) ∧ w'.cell? ⟨w.heap.size, 3, none⟩ = some (.int .i64 x.a) ∧ w'.cell? ⟨w.heap.size, 4, none⟩ = some (.int .i64 x.b) ∧ w'.cell? ⟨w.heap.size, 5, none⟩ = some (.int .i64 x.c) ∧ w'.cell? ⟨w.heap.size, 6, none⟩ = some (.int .i64 x.d) ∧ Held [(w.heap.size + 1, 0, .int .i64 a), (w.heap.size + 1, 1, .int .i64 b), (w.heap.size, 0, .int .i64 x.k), (w.heap.size, 1, .int .i64 x.l), (w.heap.size, 2, .int .i64 x.r), (w.heap.size, 3, .int .i64 x.a), (w.heap.size, 4, .int .i64 x.b), (w.heap.size, 5, .int .i64 x.c), (w.heap.size, 6, .int .i64 x.d)] w w') ((refine Held.s9 ?_; (repeat (first | refine Held.drew ?_ | refine Held.drewN ?_ _ | refine Held.setCell ?_ _ _ (by simp <;> omega) (by simp <;> omega))); refine Held.later hW ?_; repeat (first | exact Later.refl _ | refine Later.drew ?_ | refine Later.drewN ?_ _ | refine Later.alloc ?_ _ | refine Later.trans ?_ (Hid.out (by assumption)))))
    (first | (go_at_call 71; refine (i_coastingChange x _ h).mono ?_; rintro e w1 ⟨rfl, hb⟩; have H := Lib.hid hb; (first | (have F := fr_later F hb; obtain ⟨f1, f2, f3, f4⟩ := Fr.o2 F) | (have F := fr_later F (later_undrew hb); obtain ⟨f1, f2, f3, f4⟩ := Fr.o2 F) | (have F := fr_later F (later_undrewN hb); obtain ⟨f1, f2, f3, f4⟩ := Fr.o2 F)); clear hb) | (go_at_call 76; refine (i_plus _ _ _ _ _ (by omega) (by omega) (by omega) (by omega) (by omega) (by omega) (by omega) (by omega) ).mono ?_; rintro e w1 ⟨rfl, hb⟩; have H := Lib.hid hb; (first | (have F := fr_later F hb; obtain ⟨f1, f2, f3, f4⟩ := Fr.o2 F) | (have F := fr_later F (later_undrew hb); obtain ⟨f1, f2, f3, f4⟩ := Fr.o2 F) | (have F := fr_later F (later_undrewN hb); obtain ⟨f1, f2, f3, f4⟩ := Fr.o2 F)); clear hb))
  all_goals
    go_wp2_with fail
    refine bodyPost_ret (v := .agg #[.int .i64 (a + chL x), .int .i64 (b + chH x)]) (by simp [results, Try.results66, go_sem, *]) rfl ⟨rfl, (by repeat (first | exact Held.is hW | refine Later.drew ?_ | refine Later.drewN ?_ _ | refine Later.setCell ?_ (by simp <;> omega) _ | refine Later.alloc ?_ _ | refine Later.trans ?_ (Hid.out (by assumption))))⟩
end Go.Proofs.Ytdhoiiejcmnmbaa
namespace Go.Proofs.Ytdhoiiejcmnmbaa
open Go.RowKit
set_option maxHeartbeats 4000000
set_option linter.unusedVariables false
set_option linter.unusedSimpArgs false
theorem lf_cases (x : Sg) (a b t : Int) (h : sgB x = true) (h2 : enB a b = true) (ht : 0 ≤ t ∧ t ≤ 10000000000) (hk : x.k = 2) : ∀ q, q = cei (t - (a + chL x)) (2 * x.l) →
    (0 ≤ q ∧ q ≤ x.c ∧ lfV x a b t = q ∧ lfE x a b t = 0) ∨ (0 ≤ q ∧ x.c < q ∧ lfV x a b t = 0 ∧ lfE x a b t = 4) ∨ (q < 0 ∧ 0 ≤ x.c ∧ lfV x a b t = 0 ∧ lfE x a b t = 0) := by
  rintro q rfl
  have g := (fc_bd x h).1
  have e : lfE x a b t = if lfF x a t ≤ x.c then 0 else 4 := by unfold lfE; rw [h, h2]; simp only [Bool.and_self, if_true]; rw [if_pos ht, if_pos hk]
  unfold lfV okV
  rw [e]
  unfold lfF
  generalize cei (t - (a + chL x)) (2 * x.l) = q
  rcases lt_or_geI q 0 with d | d
  · refine .inr (.inr ⟨d, g, ?_, ?_⟩)
    · rw [show max 0 q = 0 by omega]; simp
    · rw [show max 0 q = 0 by omega, if_pos g]
  · rw [show max 0 q = q by omega]
    by_cases c : q ≤ x.c
    · rw [if_pos c]; exact .inl ⟨d, c, by simp, rfl⟩
    · rw [if_neg c]; exact .inr (.inl ⟨d, by omega, by simp, rfl⟩)
theorem i_DivideUp_ok (a b : Int) (w : World) (h1 : -1000000000000 ≤ a) (h2 : a ≤ 1000000000000) (h3 : 0 < b) (h4 : b ≤ 1000000000000) : Calls Try.prog 65 #[.int .i64 a, .int .i64 b] w fun e w' => e = .returned (.tuple #[.int .i64 (cei a b), .int .i64 0]) ∧ Later w w' := by
  have e : divErr a b = 0 := by
    unfold divErr
    rw [if_neg (by rw [isVB_no, isVB_no]; omega), if_neg (by omega)]
  have h := i_DivideUp a b w
  unfold divU at h
  rw [e] at h
  exact h.mono fun e w' ⟨he, hw⟩ => ⟨he, by rw [← hw]; exact Later.refl _⟩
set_option maxRecDepth 100000 in
theorem i_LaunchForce (x : Sg) (a b t : Int) (w : World) :
    Calls Try.prog 20 #[.agg #[.int .i64 x.k, .int .i64 x.l, .int .i64 x.r, .int .i64 x.a, .int .i64 x.b, .int .i64 x.c, .int .i64 x.d], .agg #[.int .i64 a, .int .i64 b], .int .i64 t] w fun e w' => e = .returned (.tuple #[.int .i64 (lfV x a b t), .int .i64 (lfE x a b t)]) ∧ Later w w' := by
  cases h : sgB x
  · have e1 : lfE x a b t = 1 := by unfold lfE; rw [h]; rfl
    have e2 : lfV x a b t = 0 := by unfold lfV; rw [e1]; rfl
    rw [e1, e2]
    clear e1 e2
    go_enter Try.func20, Try.ntmps20
    go_wp2_with (go_at_call 63; refine (i_IsSegment x _).mono ?_; rintro e w1 ⟨rfl, hb⟩; obtain ⟨H, hcc, hff, hzz⟩ := later_facts hb; clear hb; (try simp at hzz); have hz0 : w.heap.size < w1.heap.size := (by omega); (try (have hz1 : w.heap.size + 1 < w1.heap.size := (by omega))); (try (have hz2 : w.heap.size + 1 + 1 < w1.heap.size := (by omega))))
    go_ret2
    exact ⟨rfl, (by repeat (first | (with_reducible exact Later.refl _) | (with_reducible exact Hid.out (by assumption)) | (with_reducible refine Later.alloc ?_ _) | (with_reducible refine Later.setCell ?_ (by simp; omega) _) | (with_reducible refine Later.setCell ?_ (by simp) _) | (with_reducible refine Later.drewN ?_ _) | (with_reducible refine Later.drew ?_) | (with_reducible refine Later.trans ?_ (Hid.out (by assumption)))))⟩
  cases h2 : enB a b
  · have e1 : lfE x a b t = 1 := by unfold lfE; rw [h, h2]; rfl
    have e2 : lfV x a b t = 0 := by unfold lfV; rw [e1]; rfl
    rw [e1, e2]
    clear e1 e2
    go_enter Try.func20, Try.ntmps20
    go_wp2_with (first | (go_at_call 63; refine (i_IsSegment x _).mono ?_; rintro e w1 ⟨rfl, hb⟩; obtain ⟨H, hcc, hff, hzz⟩ := later_facts hb; clear hb; (try simp at hzz); have hz0 : w.heap.size < w1.heap.size := (by omega); (try (have hz1 : w.heap.size + 1 < w1.heap.size := (by omega))); (try (have hz2 : w.heap.size + 1 + 1 < w1.heap.size := (by omega)))) | (go_at_call 64; refine (i_IsEnergy _ _ _).mono ?_; rintro e w1 ⟨rfl, hb⟩; obtain ⟨H, hcc, hff, hzz⟩ := later_facts hb; clear hb; (try simp at hzz); have hz0 : w.heap.size < w1.heap.size := (by omega); (try (have hz1 : w.heap.size + 1 < w1.heap.size := (by omega))); (try (have hz2 : w.heap.size + 1 + 1 < w1.heap.size := (by omega)))))
    go_ret2
    exact ⟨rfl, (by repeat (first | (with_reducible exact Later.refl _) | (with_reducible exact Hid.out (by assumption)) | (with_reducible refine Later.alloc ?_ _) | (with_reducible refine Later.setCell ?_ (by simp; omega) _) | (with_reducible refine Later.setCell ?_ (by simp) _) | (with_reducible refine Later.drewN ?_ _) | (with_reducible refine Later.drew ?_) | (with_reducible refine Later.trans ?_ (Hid.out (by assumption)))))⟩
  have hb : (sgB x && enB a b) = true := by rw [h, h2]; rfl
  by_cases ht : 0 ≤ t ∧ t ≤ 10000000000
  · obtain ⟨t1, t2⟩ := ht
    have t3 : ¬ t < 0 := by omega
    have t4 : ¬ 10000000000 < t := by omega
    by_cases hk : x.k = 2
    · have hkb : (x.k != 2) = false := by simpa using hk
      have HQ := lf_cases x a b t h h2 ⟨t1, t2⟩ hk
      have HC := fun w => i_coasted x a b w h h2
      have hcd := ch_bd x h
      obtain ⟨c4, c5, c6⟩ := (enB_iff a b).1 h2
      obtain ⟨l1, l2⟩ := ((sgB_iff x).1 h).2.1
      have hwl : IntKind.i64.wrap (2 * x.l) = 2 * x.l := IntWalk.i64_in _ ⟨by omega, by omega⟩
      obtain ⟨p, hp⟩ : ∃ p, p = a + chL x := ⟨_, rfl⟩
      obtain ⟨p', hp'⟩ : ∃ p', p' = b + chH x := ⟨_, rfl⟩
      have hp1 : -20000000000 ≤ p ∧ p ≤ 20000000000 := by omega
      obtain ⟨q1, q2⟩ := hp1
      rw [← hp, ← hp'] at HC
      rw [← hp] at HQ
      have hwt : IntKind.i64.wrap (t - p) = t - p := IntWalk.i64_in _ ⟨by omega, by omega⟩
      have HD := fun w => i_DivideUp_ok (t - p) (2 * x.l) w (by omega) (by omega) (by omega) (by omega)
      have HQ := HQ _ rfl
      generalize cei (t - p) (2 * x.l) = q at *
      have hfl : (Instr.field 25 (.agg #[.int .i64 p, .int .i64 p']) 0).run Try.prog = (Instr.field 25 (.agg #[.int .i64 p, .int .i64 p']) 0).run Try.prog := rfl
      have HFL : ∀ W : World, (Instr.field 25 (.agg #[.int .i64 p, .int .i64 p']) 0).run Try.prog W = .ok (.int .i64 p) W := fun W => by kernel_rfl
      clear hfl hp hp' hcd c4 c5 c6 hb hk
      go_enter Try.func20, Try.ntmps20
      go_upto_region 1 with (fail)
      refine into (Held [(w.heap.size + 1, 0, .int .i64 a), (w.heap.size + 1, 1, .int .i64 b), (w.heap.size, 0, .int .i64 x.k), (w.heap.size, 1, .int .i64 x.l), (w.heap.size, 2, .int .i64 x.r), (w.heap.size, 3, .int .i64 x.a), (w.heap.size, 4, .int .i64 x.b), (w.heap.size, 5, .int .i64 x.c), (w.heap.size, 6, .int .i64 x.d)] w) (by first | exact (held_box (held_box (held_start w) (w.heap.size) [.int .i64 x.k, .int .i64 x.l, .int .i64 x.r, .int .i64 x.a, .int .i64 x.b, .int .i64 x.c, .int .i64 x.d] _ (by first | rfl | simp)) (w.heap.size + 1) [.int .i64 a, .int .i64 b] _ (by first | rfl | simp)) | simpa using (held_box (held_box (held_start w) (w.heap.size) [.int .i64 x.k, .int .i64 x.l, .int .i64 x.r, .int .i64 x.a, .int .i64 x.b, .int .i64 x.c, .int .i64 x.d] _ (by first | rfl | simp)) (w.heap.size + 1) [.int .i64 a, .int .i64 b] _ (by first | rfl | simp))) ?_
      intro W hW
      obtain ⟨p0, p1, p2, p3, p4, p5, p6, p7, p8, _⟩ := Held.s9 hW
      have z0 := Held.lt hW (w.heap.size) 0 (.int .i64 x.k) (by simp)
      have z1 := Held.lt hW (w.heap.size + 1) 0 (.int .i64 a) (by simp)
      have HW := Lib.hid (Held.is hW)
      go_upto_region 7 with (first | (go_at_call 63; refine (i_IsSegment x _).mono ?_; rintro e w1 ⟨rfl, hb⟩; obtain ⟨H, hcc, hff, hzz⟩ := later_facts hb; clear hb; (try simp at hzz); have hz0 : w.heap.size < w1.heap.size := (by omega); (try (have hz1 : w.heap.size + 1 < w1.heap.size := (by omega))); (try (have hz2 : w.heap.size + 1 + 1 < w1.heap.size := (by omega)))) | (go_at_call 64; refine (i_IsEnergy _ _ _).mono ?_; rintro e w1 ⟨rfl, hb⟩; obtain ⟨H, hcc, hff, hzz⟩ := later_facts hb; clear hb; (try simp at hzz); have hz0 : w.heap.size < w1.heap.size := (by omega); (try (have hz1 : w.heap.size + 1 < w1.heap.size := (by omega))); (try (have hz2 : w.heap.size + 1 + 1 < w1.heap.size := (by omega)))))
      refine into (Held [(w.heap.size + 1, 0, .int .i64 a), (w.heap.size + 1, 1, .int .i64 b), (w.heap.size, 0, .int .i64 x.k), (w.heap.size, 1, .int .i64 x.l), (w.heap.size, 2, .int .i64 x.r), (w.heap.size, 3, .int .i64 x.a), (w.heap.size, 4, .int .i64 x.b), (w.heap.size, 5, .int .i64 x.c), (w.heap.size, 6, .int .i64 x.d)] w) (Held.later hW (by repeat (first | (with_reducible exact Later.refl _) | (with_reducible exact Hid.out (by assumption)) | (with_reducible refine Later.alloc ?_ _) | (with_reducible refine Later.setCell ?_ (by simp; omega) _) | (with_reducible refine Later.setCell ?_ (by simp) _) | (with_reducible refine Later.drewN ?_ _) | (with_reducible refine Later.drew ?_) | (with_reducible refine Later.trans ?_ (Hid.out (by assumption)))))) ?_
      clear p0 p1 p2 p3 p4 p5 p6 p7 p8
      clear z0 z1
      intro W hW
      go_cut [8] (fun s W => s = .int .i64 q ∧ Held [(w.heap.size + 1, 0, .int .i64 a), (w.heap.size + 1, 1, .int .i64 b), (w.heap.size, 0, .int .i64 x.k), (w.heap.size, 1, .int .i64 x.l), (w.heap.size, 2, .int .i64 x.r), (w.heap.size, 3, .int .i64 x.a), (w.heap.size, 4, .int .i64 x.b), (w.heap.size, 5, .int .i64 x.c), (w.heap.size, 6, .int .i64 x.d)] w W)
      case first =>
        go_region_held3 (fun w' => w'.cell? ⟨w.heap.size + 1, 0, none⟩ = some (.int .i64 a) ∧ w'.cell? ⟨w.heap.size + 1, 1, none⟩ = some (.int .i64 b) ∧ w'.cell? ⟨w.heap.size, 0, none⟩ = some (.int .i64 x.k) ∧ w'.cell? ⟨w.heap.size, 1, none⟩ = some (.int .i64 x.l) ∧ w'.cell? ⟨w.heap.size, 2, none⟩ = some (.int .i64 x.r) ∧ w'.cell? ⟨w.heap.size, 3, none⟩ = some (.int .i64 x.a) ∧ w'.cell? ⟨w.heap.size, 4, none⟩ = some (.int .i64 x.b) ∧ w'.cell? ⟨w.heap.size, 5, none⟩ = some (.int .i64 x.c) ∧ w'.cell? ⟨w.heap.size, 6, none⟩ = some (.int .i64 x.d) ∧ Held [(w.heap.size + 1, 0, .int .i64 a), (w.heap.size + 1, 1, .int .i64 b), (w.heap.size, 0, .int .i64 x.k), (w.heap.size, 1, .int .i64 x.l), (w.heap.size, 2, .int .i64 x.r), (w.heap.size, 3, .int .i64 x.a), (w.heap.size, 4, .int .i64 x.b), (w.heap.size, 5, .int .i64 x.c), (w.heap.size, 6, .int .i64 x.d)] w w') (exact Held.s9 (Held.later hW (by repeat (first | exact Later.refl _ | refine Later.drew ?_ | refine Later.drewN ?_ _ | refine Later.alloc ?_ _ | refine Later.trans ?_ (Hid.out (by assumption))))))
          (first | (go_at_call 66; refine (HC _).mono ?_; rintro e w1 ⟨rfl, hb⟩; have H := Lib.hid hb; clear hb) | (go_at_call 65; refine (HD _).mono ?_; rintro e w1 ⟨rfl, hb⟩; have H := Lib.hid hb; clear hb))
        all_goals
          go_wp2_with fail
          go_meet
          exact ⟨rfl, Held.later hW (by repeat (first | exact Later.refl _ | refine Later.drew ?_ | refine Later.drewN ?_ _ | refine Later.alloc ?_ _ | refine Later.trans ?_ (Hid.out (by assumption))))⟩
      case rest =>
        obtain ⟨rfl, hW⟩ := hcut
        have HW2 := Lib.hid (Held.is hW)
        obtain ⟨p0, p1, p2, p3, p4, p5, p6, p7, p8, _⟩ := Held.s9 hW
        have z0 := Held.lt hW (w.heap.size) 0 (.int .i64 x.k) (by simp)
        have z1 := Held.lt hW (w.heap.size + 1) 0 (.int .i64 a) (by simp)
        rcases HQ with ⟨k1, k2, k3, k4⟩ | ⟨k1, k2, k3, k4⟩ | ⟨k1, k2, k3, k4⟩
        · have K := Lib.hid (And.intro k3 k4)
          clear k3 k4
          have n1 : ¬ x.c < q := by omega
          have m1 : max q 0 = q := by omega
          have m2 : ¬ q < 0 := by omega
          go_wp2_with fail
          all_goals
            go_ret2
            exact ⟨by rw [K.out.1, K.out.2]; first | rfl | simp [*] | (rw [m1]), HW2.out⟩
        · have K := Lib.hid (And.intro k3 k4)
          clear k3 k4
          have m1 : max q 0 = q := by omega
          have m2 : ¬ q < 0 := by omega
          go_wp2_with fail
          all_goals
            go_ret2
            exact ⟨by rw [K.out.1, K.out.2]; first | rfl | simp [*] | (rw [m1]), HW2.out⟩
        · have K := Lib.hid (And.intro k3 k4)
          clear k3 k4
          have m1 : max q 0 = 0 := by omega
          have n1 : ¬ x.c < 0 := by omega
          go_wp2_with fail
          all_goals
            go_ret2
            exact ⟨by rw [K.out.1, K.out.2]; first | rfl | simp [*] | (rw [m1]), HW2.out⟩
    · have hkb : (x.k != 2) = true := by simpa using hk
      have e1 : lfE x a b t = 5 := by unfold lfE; rw [if_pos hb, if_pos ⟨t1, t2⟩, if_neg hk]
      have e2 : lfV x a b t = 0 := by unfold lfV; rw [e1]; rfl
      rw [e1, e2]
      clear e1 e2 hb hk
      go_enter Try.func20, Try.ntmps20
      go_upto_region 1 with (fail)
      refine into (Held [(w.heap.size + 1, 0, .int .i64 a), (w.heap.size + 1, 1, .int .i64 b), (w.heap.size, 0, .int .i64 x.k), (w.heap.size, 1, .int .i64 x.l), (w.heap.size, 2, .int .i64 x.r), (w.heap.size, 3, .int .i64 x.a), (w.heap.size, 4, .int .i64 x.b), (w.heap.size, 5, .int .i64 x.c), (w.heap.size, 6, .int .i64 x.d)] w) (by first | exact (held_box (held_box (held_start w) (w.heap.size) [.int .i64 x.k, .int .i64 x.l, .int .i64 x.r, .int .i64 x.a, .int .i64 x.b, .int .i64 x.c, .int .i64 x.d] _ (by first | rfl | simp)) (w.heap.size + 1) [.int .i64 a, .int .i64 b] _ (by first | rfl | simp)) | simpa using (held_box (held_box (held_start w) (w.heap.size) [.int .i64 x.k, .int .i64 x.l, .int .i64 x.r, .int .i64 x.a, .int .i64 x.b, .int .i64 x.c, .int .i64 x.d] _ (by first | rfl | simp)) (w.heap.size + 1) [.int .i64 a, .int .i64 b] _ (by first | rfl | simp))) ?_
      intro W hW
      obtain ⟨p0, p1, p2, p3, p4, p5, p6, p7, p8, _⟩ := Held.s9 hW
      have z0 := Held.lt hW (w.heap.size) 0 (.int .i64 x.k) (by simp)
      have z1 := Held.lt hW (w.heap.size + 1) 0 (.int .i64 a) (by simp)
      have HW := Lib.hid (Held.is hW)
      go_wp2_with (first | (go_at_call 63; refine (i_IsSegment x _).mono ?_; rintro e w1 ⟨rfl, hb⟩; obtain ⟨H, hcc, hff, hzz⟩ := later_facts hb; clear hb; (try simp at hzz); have hz0 : w.heap.size < w1.heap.size := (by omega); (try (have hz1 : w.heap.size + 1 < w1.heap.size := (by omega))); (try (have hz2 : w.heap.size + 1 + 1 < w1.heap.size := (by omega)))) | (go_at_call 64; refine (i_IsEnergy _ _ _).mono ?_; rintro e w1 ⟨rfl, hb⟩; obtain ⟨H, hcc, hff, hzz⟩ := later_facts hb; clear hb; (try simp at hzz); have hz0 : w.heap.size < w1.heap.size := (by omega); (try (have hz1 : w.heap.size + 1 < w1.heap.size := (by omega))); (try (have hz2 : w.heap.size + 1 + 1 < w1.heap.size := (by omega)))))
      go_ret2
      exact ⟨rfl, (by repeat (first | (with_reducible exact Later.refl _) | (with_reducible exact Hid.out (by assumption)) | (with_reducible refine Later.alloc ?_ _) | (with_reducible refine Later.setCell ?_ (by simp; omega) _) | (with_reducible refine Later.setCell ?_ (by simp) _) | (with_reducible refine Later.drewN ?_ _) | (with_reducible refine Later.drew ?_) | (with_reducible refine Later.trans ?_ (Hid.out (by assumption)))))⟩
  · have e1 : lfE x a b t = 2 := by unfold lfE; rw [if_pos hb, if_neg ht]
    have e2 : lfV x a b t = 0 := by unfold lfV; rw [e1]; rfl
    rw [e1, e2]
    clear e1 e2 hb
    by_cases t1 : t < 0
    · go_enter Try.func20, Try.ntmps20
      go_wp2_with (first | (go_at_call 63; refine (i_IsSegment x _).mono ?_; rintro e w1 ⟨rfl, hb⟩; obtain ⟨H, hcc, hff, hzz⟩ := later_facts hb; clear hb; (try simp at hzz); have hz0 : w.heap.size < w1.heap.size := (by omega); (try (have hz1 : w.heap.size + 1 < w1.heap.size := (by omega))); (try (have hz2 : w.heap.size + 1 + 1 < w1.heap.size := (by omega)))) | (go_at_call 64; refine (i_IsEnergy _ _ _).mono ?_; rintro e w1 ⟨rfl, hb⟩; obtain ⟨H, hcc, hff, hzz⟩ := later_facts hb; clear hb; (try simp at hzz); have hz0 : w.heap.size < w1.heap.size := (by omega); (try (have hz1 : w.heap.size + 1 < w1.heap.size := (by omega))); (try (have hz2 : w.heap.size + 1 + 1 < w1.heap.size := (by omega)))))
      go_ret2
      exact ⟨rfl, (by repeat (first | (with_reducible exact Later.refl _) | (with_reducible exact Hid.out (by assumption)) | (with_reducible refine Later.alloc ?_ _) | (with_reducible refine Later.setCell ?_ (by simp; omega) _) | (with_reducible refine Later.setCell ?_ (by simp) _) | (with_reducible refine Later.drewN ?_ _) | (with_reducible refine Later.drew ?_) | (with_reducible refine Later.trans ?_ (Hid.out (by assumption)))))⟩
    · have t2 : 10000000000 < t := by omega
      go_enter Try.func20, Try.ntmps20
      go_wp2_with (first | (go_at_call 63; refine (i_IsSegment x _).mono ?_; rintro e w1 ⟨rfl, hb⟩; obtain ⟨H, hcc, hff, hzz⟩ := later_facts hb; clear hb; (try simp at hzz); have hz0 : w.heap.size < w1.heap.size := (by omega); (try (have hz1 : w.heap.size + 1 < w1.heap.size := (by omega))); (try (have hz2 : w.heap.size + 1 + 1 < w1.heap.size := (by omega)))) | (go_at_call 64; refine (i_IsEnergy _ _ _).mono ?_; rintro e w1 ⟨rfl, hb⟩; obtain ⟨H, hcc, hff, hzz⟩ := later_facts hb; clear hb; (try simp at hzz); have hz0 : w.heap.size < w1.heap.size := (by omega); (try (have hz1 : w.heap.size + 1 < w1.heap.size := (by omega))); (try (have hz2 : w.heap.size + 1 + 1 < w1.heap.size := (by omega)))))
      go_ret2
      exact ⟨rfl, (by repeat (first | (with_reducible exact Later.refl _) | (with_reducible exact Hid.out (by assumption)) | (with_reducible refine Later.alloc ?_ _) | (with_reducible refine Later.setCell ?_ (by simp; omega) _) | (with_reducible refine Later.setCell ?_ (by simp) _) | (with_reducible refine Later.drewN ?_ _) | (with_reducible refine Later.drew ?_) | (with_reducible refine Later.trans ?_ (Hid.out (by assumption)))))⟩
set_option maxRecDepth 100000 in
theorem i_TurnDistance (x : Sg) (a b : Int) (w : World) :
    Calls Try.prog 24 #[.agg #[.int .i64 x.k, .int .i64 x.l, .int .i64 x.r, .int .i64 x.a, .int .i64 x.b, .int .i64 x.c, .int .i64 x.d], .agg #[.int .i64 a, .int .i64 b]] w fun e w' => e = .returned (.tuple #[.agg #[.int .i64 (tdL x a b), .int .i64 (tdH x a b)], .int .i64 (tdE x a b)]) ∧ Later w w' := by
  have HV := fun w => i_PassVerdict x a b w
  by_cases hb : (sgB x && enB a b) = true
  · have hs : sgB x = true := by simp at hb; exact hb.1
    have he : enB a b = true := by simp at hb; exact hb.2
    have v1 : pvE x a b = 0 := by unfold pvE; rw [hb]; rfl
    have hc := ch_bd x hs
    have e := (enB_iff a b).1 he
    by_cases hn : b + chH x < 0
    · have v2 : pvV x a b = 0 := by unfold pvV; rw [if_pos hb]; unfold vrd; rw [if_neg (by omega), if_pos hn]
      have e1 : tdE x a b = 0 := by unfold tdE; rw [if_pos hb, if_pos hn]
      have e2 : tdL x a b = flo (a * x.l) (-chL x) := by unfold tdL okV; rw [e1]; rfl
      have e3 : tdH x a b = cei (b * x.l) (-chH x) := by unfold tdH okV; rw [e1]; rfl
      rw [e1, e2, e3]
      rw [v1, v2] at HV
      obtain ⟨l1, l2⟩ := ((sgB_iff x).1 hs).2.1
      have m1 := nn_mul a x.l (by omega) (by omega) l1 l2
      have m2 := nn_mul b x.l (by omega) (by omega) l1 l2
      have HC := fun w => i_coastingChange x w hs
      have HM := fun w => i_minus 0 0 (chL x) (chH x) w (by omega) (by omega) (by omega) (by omega) (by omega) (by omega) (by omega) (by omega)
      rw [show (0 : Int) - chH x = -chH x by omega, show (0 : Int) - chL x = -chL x by omega] at HM
      have HT := fun w => i_times_nn a b x.l w (by omega) (by omega) (by omega) (by omega) (by omega)
      have HO := fun w => i_over (a * x.l) (b * x.l) (-chH x) (-chL x) w (by omega) (by omega) (by omega) (by omega) (by omega) (by omega) (by omega) (by omega)
      generalize flo (a * x.l) (-chL x) = fA at *
      generalize cei (b * x.l) (-chH x) = cB at *
      generalize -chH x = p at *
      generalize -chL x = q at *
      generalize chH x = z at *
      generalize chL x = y at *
      generalize a * x.l = A at *
      generalize b * x.l = B at *
      clear e1 e2 e3 v1 v2 hb m1 m2 hc e hn
      go_enter Try.func24, Try.ntmps24
      go_upto_region 1 with (fail)
      refine into (fun W => Held [(w.heap.size + 1, 0, .int .i64 a), (w.heap.size + 1, 1, .int .i64 b), (w.heap.size, 0, .int .i64 x.k), (w.heap.size, 1, .int .i64 x.l), (w.heap.size, 2, .int .i64 x.r), (w.heap.size, 3, .int .i64 x.a), (w.heap.size, 4, .int .i64 x.b), (w.heap.size, 5, .int .i64 x.c), (w.heap.size, 6, .int .i64 x.d)] w W ∧ Fr (w.heap.size + 1 + 1) [.int .i64 0, .int .i64 0] W) ⟨?_, ?_⟩ ?_
      · exact ((held_box (held_box (held_start w) (w.heap.size) [.int .i64 x.k, .int .i64 x.l, .int .i64 x.r, .int .i64 x.a, .int .i64 x.b, .int .i64 x.c, .int .i64 x.d] _ (by first | rfl | simp)) (w.heap.size + 1) [.int .i64 a, .int .i64 b] _ (by first | rfl | simp))).alloc _
      · have F := fr_alloc (X := ((w.alloc (.cells [(.int .i64 x.k : Value), .int .i64 x.l, .int .i64 x.r, .int .i64 x.a, .int .i64 x.b, .int .i64 x.c, .int .i64 x.d].toArray 27)).alloc (.cells [(.int .i64 a : Value), .int .i64 b].toArray 25))) (l := [.int .i64 0, .int .i64 0]) (T := 25) (Later.refl _)
        simp only [World.size_alloc] at F
        exact F
      rintro W ⟨hW, hF⟩
      obtain ⟨p0, p1, p2, p3, p4, p5, p6, p7, p8, _⟩ := Held.s9 hW
      have z0 := Held.lt hW (w.heap.size) 0 (.int .i64 x.k) (by simp)
      have z1 := Held.lt hW (w.heap.size + 1) 0 (.int .i64 a) (by simp)
      obtain ⟨r0, r1, r2, r3⟩ := Fr.o2 hF
      have zr := Fr.lt hF
      have HW := Lib.hid (Held.is hW)
      go_wp2_with (first | (go_at_call 29; refine (HV _).mono ?_; rintro e w1 ⟨rfl, hb⟩; obtain ⟨H, hcc, hff, hzz⟩ := later_facts hb; clear hb; (try simp at hzz); have hz0 : w.heap.size < w1.heap.size := (by omega); (try (have hz1 : w.heap.size + 1 < w1.heap.size := (by omega))); (try (have hz2 : w.heap.size + 1 + 1 < w1.heap.size := (by omega)))) | (go_at_call 71; refine (HC _).mono ?_; rintro e w1 ⟨rfl, hb⟩; obtain ⟨H, hcc, hff, hzz⟩ := later_facts hb; clear hb; (try simp at hzz); have hz0 : w.heap.size < w1.heap.size := (by omega); (try (have hz1 : w.heap.size + 1 < w1.heap.size := (by omega))); (try (have hz2 : w.heap.size + 1 + 1 < w1.heap.size := (by omega)))) | (go_at_call 72; refine (HM _).mono ?_; rintro e w7 ⟨rfl, hb⟩; have H7 : Hid (Later W w7) := Lib.hid (Later.trans (by repeat (first | (with_reducible exact Later.refl _) | (with_reducible exact Hid.out (by assumption)) | (with_reducible refine Later.alloc ?_ _) | (with_reducible refine Later.setCell ?_ (by simp; omega) _) | (with_reducible refine Later.setCell ?_ (by simp) _) | (with_reducible refine Later.drewN ?_ _) | (with_reducible refine Later.drew ?_) | (with_reducible refine Later.trans ?_ (Hid.out (by assumption))))) hb); clear hb))
      have hgz : w.heap.size + 1 + 1 < w7.heap.size := by have := H7.out.size; omega
      refine into (fun W => Held ((w7.heap.size, 0, .int .i64 p) :: (w7.heap.size, 1, .int .i64 q) :: [(w.heap.size + 1, 0, .int .i64 a), (w.heap.size + 1, 1, .int .i64 b), (w.heap.size, 0, .int .i64 x.k), (w.heap.size, 1, .int .i64 x.l), (w.heap.size, 2, .int .i64 x.r), (w.heap.size, 3, .int .i64 x.a), (w.heap.size, 4, .int .i64 x.b), (w.heap.size, 5, .int .i64 x.c), (w.heap.size, 6, .int .i64 x.d)]) w W ∧ Fr (w.heap.size + 1 + 1) [.int .i64 0, .int .i64 0] W) ⟨held_box (Held.later hW (by repeat (first | exact H7.out | refine Later.drew ?_ | refine Later.drewN ?_ _))) w7.heap.size [.int .i64 p, .int .i64 q] _ rfl, fr_later hF ((by repeat (first | exact H7.out | refine Later.alloc ?_ _ | refine Later.drew ?_ | refine Later.drewN ?_ _)))⟩ ?_
      clear p0 p1 p2 p3 p4 p5 p6 p7 p8 r0 r1 r2 r3
      rintro W' ⟨hW, F⟩
      clear hF
      have hW : Held [(w7.heap.size, 0, .int .i64 p), (w7.heap.size, 1, .int .i64 q), (w.heap.size + 1, 0, .int .i64 a), (w.heap.size + 1, 1, .int .i64 b), (w.heap.size, 1, .int .i64 x.l)] w W' := ⟨fun x hx => hW.1 x (by simp at hx ⊢; rcases hx with rfl | rfl | rfl | rfl | rfl <;> simp), hW.2⟩
      obtain ⟨r0, r1, r2, r3⟩ := Fr.o2 F
      have z3 := hW.lt w7.heap.size 0 (.int .i64 p) (by simp)
      have ne1 : ¬ w7.heap.size = w.heap.size + 1 + 1 := by omega
      have ne2 : ¬ w.heap.size + 1 + 1 = w7.heap.size := by omega
      have hls : ∀ y ∈ ([(w7.heap.size, 0, .int .i64 p), (w7.heap.size, 1, .int .i64 q), (w.heap.size + 1, 0, .int .i64 a), (w.heap.size + 1, 1, .int .i64 b), (w.heap.size, 1, .int .i64 x.l)] : List (Nat × Nat × Value)), y.1 ≠ w.heap.size + 1 + 1 := by
        intro y hx; simp at hx; rcases hx with rfl | rfl | rfl | rfl | rfl <;> simp <;> omega
      go_region_held3 (fun w' => w'.cell? ⟨w7.heap.size, 0, none⟩ = some (.int .i64 p) ∧ w'.cell? ⟨w7.heap.size, 1, none⟩ = some (.int .i64 q) ∧ w'.cell? ⟨w.heap.size + 1, 0, none⟩ = some (.int .i64 a) ∧ w'.cell? ⟨w.heap.size + 1, 1, none⟩ = some (.int .i64 b) ∧ w'.cell? ⟨w.heap.size, 1, none⟩ = some (.int .i64 x.l) ∧ Held [(w7.heap.size, 0, .int .i64 p), (w7.heap.size, 1, .int .i64 q), (w.heap.size + 1, 0, .int .i64 a), (w.heap.size + 1, 1, .int .i64 b), (w.heap.size, 1, .int .i64 x.l)] w w') ((refine Held.s5 ?_; (repeat (first | refine Held.drew ?_ | refine Held.drewN ?_ _ | refine Held.setNe ?_ _ _ hls (by simp <;> omega))); refine Held.later hW ?_; repeat (first | exact Later.refl _ | refine Later.drew ?_ | refine Later.drewN ?_ _ | refine Later.alloc ?_ _ | refine Later.trans ?_ (Hid.out (by assumption)))))
        (first | (go_at_call 73; refine (HT _).mono ?_; rintro e w1 ⟨rfl, hb⟩; have H := Lib.hid hb; (first | (have F := fr_later F hb; obtain ⟨f1, f2, f3, f4⟩ := Fr.o2 F) | (have F := fr_later F (later_undrew hb); obtain ⟨f1, f2, f3, f4⟩ := Fr.o2 F) | (have F := fr_later F (later_undrewN hb); obtain ⟨f1, f2, f3, f4⟩ := Fr.o2 F)); clear hb) | (go_at_call 74; refine (HO _).mono ?_; rintro e w1 ⟨rfl, hb⟩; have H := Lib.hid hb; (first | (have F := fr_later F hb; obtain ⟨f1, f2, f3, f4⟩ := Fr.o2 F) | (have F := fr_later F (later_undrew hb); obtain ⟨f1, f2, f3, f4⟩ := Fr.o2 F) | (have F := fr_later F (later_undrewN hb); obtain ⟨f1, f2, f3, f4⟩ := Fr.o2 F)); clear hb))
      all_goals
        go_wp2_with fail
        refine bodyPost_ret (v := .tuple #[.agg #[.int .i64 fA, .int .i64 cB], .int .i64 0]) (by simp [results, Try.results24, go_sem, *]) rfl ⟨rfl, (by repeat (first | exact Held.is hW | refine Later.drew ?_ | refine Later.drewN ?_ _ | refine Later.setCell ?_ (by simp <;> omega) _ | refine Later.alloc ?_ _ | refine Later.trans ?_ (Hid.out (by assumption))))⟩
    · have hnv : pvV x a b ≠ 0 := by
        unfold pvV vrd; rw [if_pos hb]; split
        · decide
        · first | decide | (rw [if_neg hn]; decide)
      have e1 : tdE x a b = 5 := by unfold tdE; rw [if_pos hb, if_neg hn]
      have e2 : tdL x a b = 0 := by unfold tdL; rw [e1]; rfl
      have e3 : tdH x a b = 0 := by unfold tdH; rw [e1]; rfl
      rw [e1, e2, e3]
      rw [v1] at HV
      generalize pvV x a b = v at *
      have hnb : (v != 0) = true := by simpa using hnv
      clear e1 e2 e3 v1 hb hc e hn hnv
      go_enter Try.func24, Try.ntmps24
      go_wp2_with (go_at_call 29; refine (HV _).mono ?_; rintro e w1 ⟨rfl, hb⟩; obtain ⟨H, hcc, hff, hzz⟩ := later_facts hb; clear hb; (try simp at hzz); have hz0 : w.heap.size < w1.heap.size := (by omega); (try (have hz1 : w.heap.size + 1 < w1.heap.size := (by omega))); (try (have hz2 : w.heap.size + 1 + 1 < w1.heap.size := (by omega))))
      refine bodyPost_ret (v := .tuple #[.agg #[.int .i64 0, .int .i64 0], .int .i64 5]) (by simp [results, Try.results24, go_sem, *]) rfl ⟨rfl, (by repeat (first | (with_reducible exact Later.refl _) | (with_reducible exact Hid.out (by assumption)) | (with_reducible refine Later.alloc ?_ _) | (with_reducible refine Later.setCell ?_ (by simp; omega) _) | (with_reducible refine Later.setCell ?_ (by simp) _) | (with_reducible refine Later.drewN ?_ _) | (with_reducible refine Later.drew ?_) | (with_reducible refine Later.trans ?_ (Hid.out (by assumption)))))⟩
  · have v1 : pvE x a b = 1 := by unfold pvE inE; rw [if_neg hb]
    have e1 : tdE x a b = 1 := by unfold tdE; rw [if_neg hb]
    have e2 : tdL x a b = 0 := by unfold tdL; rw [e1]; rfl
    have e3 : tdH x a b = 0 := by unfold tdH; rw [e1]; rfl
    rw [e1, e2, e3]
    rw [v1] at HV
    generalize pvV x a b = v at *
    clear e1 e2 e3 v1 hb
    go_enter Try.func24, Try.ntmps24
    go_wp2_with (go_at_call 29; refine (HV _).mono ?_; rintro e w1 ⟨rfl, hb⟩; obtain ⟨H, hcc, hff, hzz⟩ := later_facts hb; clear hb; (try simp at hzz); have hz0 : w.heap.size < w1.heap.size := (by omega); (try (have hz1 : w.heap.size + 1 < w1.heap.size := (by omega))); (try (have hz2 : w.heap.size + 1 + 1 < w1.heap.size := (by omega))))
    refine bodyPost_ret (v := .tuple #[.agg #[.int .i64 0, .int .i64 0], .int .i64 1]) (by simp [results, Try.results24, go_sem, *]) rfl ⟨rfl, (by repeat (first | (with_reducible exact Later.refl _) | (with_reducible exact Hid.out (by assumption)) | (with_reducible refine Later.alloc ?_ _) | (with_reducible refine Later.setCell ?_ (by simp; omega) _) | (with_reducible refine Later.setCell ?_ (by simp) _) | (with_reducible refine Later.drewN ?_ _) | (with_reducible refine Later.drew ?_) | (with_reducible refine Later.trans ?_ (Hid.out (by assumption)))))⟩
set_option maxRecDepth 100000 in
theorem i_LiftTime (x : Sg) (w : World) :
    Calls Try.prog 27 #[.agg #[.int .i64 x.k, .int .i64 x.l, .int .i64 x.r, .int .i64 x.a, .int .i64 x.b, .int .i64 x.c, .int .i64 x.d]] w fun e w' => e = .returned (.tuple #[.agg #[.int .i64 (ltL x), .int .i64 (ltH x)], .int .i64 (ltE x)]) ∧ Later w w' := by
  cases h : sgB x
  · have e1 : ltE x = 1 := by unfold ltE; rw [h]; rfl
    have e2 : ltL x = 0 := by unfold ltL; rw [e1]; rfl
    have e3 : ltH x = 0 := by unfold ltH; rw [e1]; rfl
    rw [e1, e2, e3]
    clear e1 e2 e3
    go_enter Try.func27, Try.ntmps27
    go_wp2_with (go_at_call 63; refine (i_IsSegment x _).mono ?_; rintro e w1 ⟨rfl, hb⟩; obtain ⟨H, hcc, hff, hzz⟩ := later_facts hb; clear hb; (try simp at hzz); have hz0 : w.heap.size < w1.heap.size := (by omega); (try (have hz1 : w.heap.size + 1 < w1.heap.size := (by omega))); (try (have hz2 : w.heap.size + 1 + 1 < w1.heap.size := (by omega))))
    refine bodyPost_ret (v := .tuple #[.agg #[.int .i64 0, .int .i64 0], .int .i64 1]) (by simp [results, Try.results27, go_sem, *]) rfl ⟨rfl, (by repeat (first | (with_reducible exact Later.refl _) | (with_reducible exact Hid.out (by assumption)) | (with_reducible refine Later.alloc ?_ _) | (with_reducible refine Later.setCell ?_ (by simp; omega) _) | (with_reducible refine Later.setCell ?_ (by simp) _) | (with_reducible refine Later.drewN ?_ _) | (with_reducible refine Later.drew ?_) | (with_reducible refine Later.trans ?_ (Hid.out (by assumption)))))⟩
  · by_cases hk : x.k = 1
    · have hkb : (x.k != 1) = false := by simpa using hk
      have e1 : ltE x = 0 := by unfold ltE; rw [h, if_pos rfl, if_pos hk]
      have e2 : ltL x = flo (1000 * x.l) x.d := by unfold ltL okV; rw [e1]; rfl
      have e3 : ltH x = cei (1000 * x.l) x.c := by unfold ltH okV; rw [e1]; rfl
      rw [e1, e2, e3]
      have g := (sgB_iff x).1 h
      obtain ⟨l1, l2⟩ := g.2.1
      have f := g.2.2.2.2.2 (by omega)
      have HT := fun w => i_times_nn x.l x.l 1000 w (by omega) (by omega) (by omega) (by omega) (by omega)
      rw [show x.l * 1000 = 1000 * x.l by omega] at HT
      have HO := fun w => i_over (1000 * x.l) (1000 * x.l) x.c x.d w (by omega) (by omega) (by omega) (by omega) (by omega) (by omega) (by omega) (by omega)
      generalize flo (1000 * x.l) x.d = fA at *
      generalize cei (1000 * x.l) x.c = cB at *
      generalize 1000 * x.l = A at *
      clear e1 e2 e3 g f hk
      go_enter Try.func27, Try.ntmps27
      go_upto_region 1 with (fail)
      refine into (fun W => Held [(w.heap.size, 0, .int .i64 x.k), (w.heap.size, 1, .int .i64 x.l), (w.heap.size, 2, .int .i64 x.r), (w.heap.size, 3, .int .i64 x.a), (w.heap.size, 4, .int .i64 x.b), (w.heap.size, 5, .int .i64 x.c), (w.heap.size, 6, .int .i64 x.d)] w W ∧ Fr (w.heap.size + 1) [.int .i64 0, .int .i64 0] W) ⟨?_, ?_⟩ ?_
      · exact ((held_box (held_start w) (w.heap.size) [.int .i64 x.k, .int .i64 x.l, .int .i64 x.r, .int .i64 x.a, .int .i64 x.b, .int .i64 x.c, .int .i64 x.d] _ (by first | rfl | simp))).alloc _
      · have F := fr_alloc (X := (w.alloc (.cells [(.int .i64 x.k : Value), .int .i64 x.l, .int .i64 x.r, .int .i64 x.a, .int .i64 x.b, .int .i64 x.c, .int .i64 x.d].toArray 27))) (l := [.int .i64 0, .int .i64 0]) (T := 25) (Later.refl _)
        simp only [World.size_alloc] at F
        exact F
      rintro W ⟨hW, hF⟩
      obtain ⟨p0, p1, p2, p3, p4, p5, p6, _⟩ := Held.s7 hW
      have z0 := Held.lt hW (w.heap.size) 0 (.int .i64 x.k) (by simp)
      obtain ⟨r0, r1, r2, r3⟩ := Fr.o2 hF
      have zr := Fr.lt hF
      have HW := Lib.hid (Held.is hW)
      go_wp2_with (go_at_call 63; refine (i_IsSegment x _).mono ?_; rw [h]; rintro e w7 ⟨rfl, hb⟩; have H7 : Hid (Later W w7) := Lib.hid (Later.trans (by repeat (first | (with_reducible exact Later.refl _) | (with_reducible exact Hid.out (by assumption)) | (with_reducible refine Later.alloc ?_ _) | (with_reducible refine Later.setCell ?_ (by simp; omega) _) | (with_reducible refine Later.setCell ?_ (by simp) _) | (with_reducible refine Later.drewN ?_ _) | (with_reducible refine Later.drew ?_) | (with_reducible refine Later.trans ?_ (Hid.out (by assumption))))) hb); obtain ⟨H, hcc, hff, hzz⟩ := later_facts hb; clear hb)
      have hgz : w.heap.size + 1 < w7.heap.size := by have := H7.out.size; omega
      refine into (fun W => Held [(w7.heap.size, 0, .int .i64 x.l), (w7.heap.size, 1, .int .i64 x.l), (w.heap.size, 0, .int .i64 x.k), (w.heap.size, 1, .int .i64 x.l), (w.heap.size, 2, .int .i64 x.r), (w.heap.size, 3, .int .i64 x.a), (w.heap.size, 4, .int .i64 x.b), (w.heap.size, 5, .int .i64 x.c), (w.heap.size, 6, .int .i64 x.d)] w W ∧ Fr (w.heap.size + 1) [.int .i64 0, .int .i64 0] W) ⟨held_box (Held.later hW (by repeat (first | exact H7.out | refine Later.drew ?_ | refine Later.drewN ?_ _))) w7.heap.size [.int .i64 x.l, .int .i64 x.l] _ rfl, fr_later hF ((by repeat (first | exact H7.out | refine Later.alloc ?_ _ | refine Later.drew ?_ | refine Later.drewN ?_ _)))⟩ ?_
      clear p0 p1 p2 p3 p4 p5 p6 r0 r1 r2 r3
      clear hcc hff hzz H
      rintro W' ⟨hW, F⟩
      clear hF
      have hW : Held [(w7.heap.size, 0, .int .i64 x.l), (w7.heap.size, 1, .int .i64 x.l), (w.heap.size, 5, .int .i64 x.c), (w.heap.size, 6, .int .i64 x.d)] w W' := ⟨fun x hx => hW.1 x (by simp at hx ⊢; rcases hx with rfl | rfl | rfl | rfl <;> simp), hW.2⟩
      obtain ⟨r0, r1, r2, r3⟩ := Fr.o2 F
      have z3 := hW.lt w7.heap.size 0 (.int .i64 x.l) (by simp)
      have ne1 : ¬ w7.heap.size = w.heap.size + 1 := by omega
      have ne2 : ¬ w.heap.size + 1 = w7.heap.size := by omega
      have hls : ∀ y ∈ ([(w7.heap.size, 0, .int .i64 x.l), (w7.heap.size, 1, .int .i64 x.l), (w.heap.size, 5, .int .i64 x.c), (w.heap.size, 6, .int .i64 x.d)] : List (Nat × Nat × Value)), y.1 ≠ w.heap.size + 1 := by
        intro y hx; simp at hx; rcases hx with rfl | rfl | rfl | rfl <;> simp <;> omega
      go_region_held3 (fun w' => w'.cell? ⟨w7.heap.size, 0, none⟩ = some (.int .i64 x.l) ∧ w'.cell? ⟨w7.heap.size, 1, none⟩ = some (.int .i64 x.l) ∧ w'.cell? ⟨w.heap.size, 5, none⟩ = some (.int .i64 x.c) ∧ w'.cell? ⟨w.heap.size, 6, none⟩ = some (.int .i64 x.d) ∧ Held [(w7.heap.size, 0, .int .i64 x.l), (w7.heap.size, 1, .int .i64 x.l), (w.heap.size, 5, .int .i64 x.c), (w.heap.size, 6, .int .i64 x.d)] w w') ((refine Held.s4 ?_; (repeat (first | refine Held.drew ?_ | refine Held.drewN ?_ _ | refine Held.setNe ?_ _ _ hls (by simp <;> omega))); refine Held.later hW ?_; repeat (first | exact Later.refl _ | refine Later.drew ?_ | refine Later.drewN ?_ _ | refine Later.alloc ?_ _ | refine Later.trans ?_ (Hid.out (by assumption)))))
        (first | (go_at_call 73; refine (HT _).mono ?_; rintro e w1 ⟨rfl, hb⟩; have H := Lib.hid hb; (first | (have F := fr_later F hb; obtain ⟨f1, f2, f3, f4⟩ := Fr.o2 F) | (have F := fr_later F (later_undrew hb); obtain ⟨f1, f2, f3, f4⟩ := Fr.o2 F) | (have F := fr_later F (later_undrewN hb); obtain ⟨f1, f2, f3, f4⟩ := Fr.o2 F)); clear hb) | (go_at_call 74; refine (HO _).mono ?_; rintro e w1 ⟨rfl, hb⟩; have H := Lib.hid hb; (first | (have F := fr_later F hb; obtain ⟨f1, f2, f3, f4⟩ := Fr.o2 F) | (have F := fr_later F (later_undrew hb); obtain ⟨f1, f2, f3, f4⟩ := Fr.o2 F) | (have F := fr_later F (later_undrewN hb); obtain ⟨f1, f2, f3, f4⟩ := Fr.o2 F)); clear hb))
      all_goals
        go_wp2_with fail
        refine bodyPost_ret (v := .tuple #[.agg #[.int .i64 fA, .int .i64 cB], .int .i64 0]) (by simp [results, Try.results27, go_sem, *]) rfl ⟨rfl, (by repeat (first | exact Held.is hW | refine Later.drew ?_ | refine Later.drewN ?_ _ | refine Later.setCell ?_ (by simp <;> omega) _ | refine Later.alloc ?_ _ | refine Later.trans ?_ (Hid.out (by assumption))))⟩
    · have hkb : (x.k != 1) = true := by simpa using hk
      have e1 : ltE x = 5 := by unfold ltE; rw [h, if_pos rfl, if_neg hk]
      have e2 : ltL x = 0 := by unfold ltL; rw [e1]; rfl
      have e3 : ltH x = 0 := by unfold ltH; rw [e1]; rfl
      rw [e1, e2, e3]
      clear e1 e2 e3 hk
      go_enter Try.func27, Try.ntmps27
      go_upto_region 1 with (fail)
      refine into (fun W => Held [(w.heap.size, 0, .int .i64 x.k), (w.heap.size, 1, .int .i64 x.l), (w.heap.size, 2, .int .i64 x.r), (w.heap.size, 3, .int .i64 x.a), (w.heap.size, 4, .int .i64 x.b), (w.heap.size, 5, .int .i64 x.c), (w.heap.size, 6, .int .i64 x.d)] w W ∧ Fr (w.heap.size + 1) [.int .i64 0, .int .i64 0] W) ⟨?_, ?_⟩ ?_
      · exact ((held_box (held_start w) (w.heap.size) [.int .i64 x.k, .int .i64 x.l, .int .i64 x.r, .int .i64 x.a, .int .i64 x.b, .int .i64 x.c, .int .i64 x.d] _ (by first | rfl | simp))).alloc _
      · have F := fr_alloc (X := (w.alloc (.cells [(.int .i64 x.k : Value), .int .i64 x.l, .int .i64 x.r, .int .i64 x.a, .int .i64 x.b, .int .i64 x.c, .int .i64 x.d].toArray 27))) (l := [.int .i64 0, .int .i64 0]) (T := 25) (Later.refl _)
        simp only [World.size_alloc] at F
        exact F
      rintro W ⟨hW, hF⟩
      obtain ⟨p0, p1, p2, p3, p4, p5, p6, _⟩ := Held.s7 hW
      have z0 := Held.lt hW (w.heap.size) 0 (.int .i64 x.k) (by simp)
      obtain ⟨r0, r1, r2, r3⟩ := Fr.o2 hF
      have zr := Fr.lt hF
      have HW := Lib.hid (Held.is hW)
      go_wp2_with (go_at_call 63; refine (i_IsSegment x _).mono ?_; rintro e w1 ⟨rfl, hb⟩; obtain ⟨H, hcc, hff, hzz⟩ := later_facts hb; clear hb; (try simp at hzz); have hz0 : w.heap.size < w1.heap.size := (by omega); (try (have hz1 : w.heap.size + 1 < w1.heap.size := (by omega))); (try (have hz2 : w.heap.size + 1 + 1 < w1.heap.size := (by omega))))
      refine bodyPost_ret (v := .tuple #[.agg #[.int .i64 0, .int .i64 0], .int .i64 5]) (by simp [results, Try.results27, go_sem, *]) rfl ⟨rfl, (by repeat (first | (with_reducible exact Later.refl _) | (with_reducible exact Hid.out (by assumption)) | (with_reducible refine Later.alloc ?_ _) | (with_reducible refine Later.setCell ?_ (by simp; omega) _) | (with_reducible refine Later.setCell ?_ (by simp) _) | (with_reducible refine Later.drewN ?_ _) | (with_reducible refine Later.drew ?_) | (with_reducible refine Later.trans ?_ (Hid.out (by assumption)))))⟩
end Go.Proofs.Ytdhoiiejcmnmbaa
namespace Go.Proofs.Ytdhoiiejcmnmbaa
open Go.RowKit
set_option maxHeartbeats 4000000
set_option linter.unusedVariables false
set_option linter.unusedSimpArgs false
set_option maxRecDepth 100000 in
theorem s_LaunchForce (x : Sg) (a b t : Int) (w : World) :
    Calls Try.prog 21 #[.agg #[.int .i64 x.k, .int .i64 x.l, .int .i64 x.r, .int .i64 x.a, .int .i64 x.b, .int .i64 x.c, .int .i64 x.d], .agg #[.int .i64 a, .int .i64 b], .int .i64 t] w fun e w' => e = .returned (.tuple #[.int .i64 (lfV x a b t), .int .i64 (lfE x a b t)]) ∧ Later w w' := by
  cases h : sgB x
  · have e1 : lfE x a b t = 1 := by unfold lfE; rw [h]; rfl
    have e2 : lfV x a b t = 0 := by unfold lfV; rw [e1]; rfl
    rw [e1, e2]
    clear e1 e2
    go_enter Try.func21, Try.ntmps21
    go_wp2_with (go_at_call 67; refine (s_IsSegment x _).mono ?_; rintro e w1 ⟨rfl, hb⟩; obtain ⟨H, hcc, hff, hzz⟩ := later_facts hb; clear hb; (try simp at hzz); have hz0 : w.heap.size < w1.heap.size := (by omega); (try (have hz1 : w.heap.size + 1 < w1.heap.size := (by omega))); (try (have hz2 : w.heap.size + 1 + 1 < w1.heap.size := (by omega))))
    go_ret2
    exact ⟨rfl, (by repeat (first | (with_reducible exact Later.refl _) | (with_reducible exact Hid.out (by assumption)) | (with_reducible refine Later.alloc ?_ _) | (with_reducible refine Later.setCell ?_ (by simp; omega) _) | (with_reducible refine Later.setCell ?_ (by simp) _) | (with_reducible refine Later.drewN ?_ _) | (with_reducible refine Later.drew ?_) | (with_reducible refine Later.trans ?_ (Hid.out (by assumption)))))⟩
  cases h2 : enB a b
  · have e1 : lfE x a b t = 1 := by unfold lfE; rw [h, h2]; rfl
    have e2 : lfV x a b t = 0 := by unfold lfV; rw [e1]; rfl
    rw [e1, e2]
    clear e1 e2
    go_enter Try.func21, Try.ntmps21
    go_wp2_with (first | (go_at_call 67; refine (s_IsSegment x _).mono ?_; rintro e w1 ⟨rfl, hb⟩; obtain ⟨H, hcc, hff, hzz⟩ := later_facts hb; clear hb; (try simp at hzz); have hz0 : w.heap.size < w1.heap.size := (by omega); (try (have hz1 : w.heap.size + 1 < w1.heap.size := (by omega))); (try (have hz2 : w.heap.size + 1 + 1 < w1.heap.size := (by omega)))) | (go_at_call 68; refine (s_IsEnergy _ _ _).mono ?_; rintro e w1 ⟨rfl, hb⟩; obtain ⟨H, hcc, hff, hzz⟩ := later_facts hb; clear hb; (try simp at hzz); have hz0 : w.heap.size < w1.heap.size := (by omega); (try (have hz1 : w.heap.size + 1 < w1.heap.size := (by omega))); (try (have hz2 : w.heap.size + 1 + 1 < w1.heap.size := (by omega)))))
    go_ret2
    exact ⟨rfl, (by repeat (first | (with_reducible exact Later.refl _) | (with_reducible exact Hid.out (by assumption)) | (with_reducible refine Later.alloc ?_ _) | (with_reducible refine Later.setCell ?_ (by simp; omega) _) | (with_reducible refine Later.setCell ?_ (by simp) _) | (with_reducible refine Later.drewN ?_ _) | (with_reducible refine Later.drew ?_) | (with_reducible refine Later.trans ?_ (Hid.out (by assumption)))))⟩
  have hb : (sgB x && enB a b) = true := by rw [h, h2]; rfl
  by_cases ht : 0 ≤ t ∧ t ≤ 10000000000
  · obtain ⟨t1, t2⟩ := ht
    have t3 : (decide (0 ≤ t) && decide (t ≤ 10000000000)) = true := by simp; exact ⟨t1, t2⟩
    by_cases hk : x.k = 2
    · have hkb : (x.k != 2) = false := by simpa using hk
      have HQ := lf_cases x a b t h h2 ⟨t1, t2⟩ hk
      have HC := fun w => s_Change x w h
      have hcd := ch_bd x h
      obtain ⟨c4, c5, c6⟩ := (enB_iff a b).1 h2
      obtain ⟨l1, l2⟩ := ((sgB_iff x).1 h).2.1
      have hwl : IntKind.i64.wrap (2 * x.l) = 2 * x.l := IntWalk.i64_in _ ⟨by omega, by omega⟩
      have hw1 : IntKind.i64.wrap (t - a) = t - a := IntWalk.i64_in _ ⟨by omega, by omega⟩
      have hw2 : IntKind.i64.wrap (t - a - chL x) = t - a - chL x := IntWalk.i64_in _ ⟨by omega, by omega⟩
      have HD := fun w => s_CeilB (t - a - chL x) (2 * x.l) w (by omega) (by omega) (by omega) (by omega) (by omega)
      have hq0 : cei (t - (a + chL x)) (2 * x.l) = cei (t - a - chL x) (2 * x.l) := by rw [show t - (a + chL x) = t - a - chL x by omega]
      have HQ := HQ _ rfl
      rw [hq0] at HQ
      have HFL : ∀ W : World, (Instr.field 25 (.agg #[.int .i64 (chL x), .int .i64 (chH x)]) 0).run Try.prog W = .ok (.int .i64 (chL x)) W := fun W => by kernel_rfl
      generalize chL x = y at *
      generalize chH x = z at *
      have hqb : -4000000000000000001 ≤ cei (t - a - y) (2 * x.l) ∧ cei (t - a - y) (2 * x.l) ≤ 4000000000000000001 := by
        have := flo_bd (-(t - a - y)) (2 * x.l) 4000000000000000000 (by omega) (by omega)
        rw [cei_eq _ _ (by omega)]; omega
      generalize cei (t - a - y) (2 * x.l) = q at *
      clear hcd c4 c5 c6 hb hq0 hk
      obtain ⟨mq, hmq⟩ : ∃ mq, mq = max 0 q := ⟨_, rfl⟩
      go_enter Try.func21, Try.ntmps21
      go_upto_region 1 with (fail)
      refine into (Held [(w.heap.size + 1, 0, .int .i64 a), (w.heap.size + 1, 1, .int .i64 b), (w.heap.size, 0, .int .i64 x.k), (w.heap.size, 1, .int .i64 x.l), (w.heap.size, 2, .int .i64 x.r), (w.heap.size, 3, .int .i64 x.a), (w.heap.size, 4, .int .i64 x.b), (w.heap.size, 5, .int .i64 x.c), (w.heap.size, 6, .int .i64 x.d)] w) (by first | exact (held_box (held_box (held_start w) (w.heap.size) [.int .i64 x.k, .int .i64 x.l, .int .i64 x.r, .int .i64 x.a, .int .i64 x.b, .int .i64 x.c, .int .i64 x.d] _ (by first | rfl | simp)) (w.heap.size + 1) [.int .i64 a, .int .i64 b] _ (by first | rfl | simp)) | simpa using (held_box (held_box (held_start w) (w.heap.size) [.int .i64 x.k, .int .i64 x.l, .int .i64 x.r, .int .i64 x.a, .int .i64 x.b, .int .i64 x.c, .int .i64 x.d] _ (by first | rfl | simp)) (w.heap.size + 1) [.int .i64 a, .int .i64 b] _ (by first | rfl | simp))) ?_
      intro W hW
      obtain ⟨p0, p1, p2, p3, p4, p5, p6, p7, p8, _⟩ := Held.s9 hW
      have z0 := Held.lt hW (w.heap.size) 0 (.int .i64 x.k) (by simp)
      have z1 := Held.lt hW (w.heap.size + 1) 0 (.int .i64 a) (by simp)
      have HW := Lib.hid (Held.is hW)
      go_upto_region 7 with (first | (go_at_call 67; refine (s_IsSegment x _).mono ?_; rintro e w1 ⟨rfl, hb⟩; obtain ⟨H, hcc, hff, hzz⟩ := later_facts hb; clear hb; (try simp at hzz); have hz0 : w.heap.size < w1.heap.size := (by omega); (try (have hz1 : w.heap.size + 1 < w1.heap.size := (by omega))); (try (have hz2 : w.heap.size + 1 + 1 < w1.heap.size := (by omega)))) | (go_at_call 68; refine (s_IsEnergy _ _ _).mono ?_; rintro e w1 ⟨rfl, hb⟩; obtain ⟨H, hcc, hff, hzz⟩ := later_facts hb; clear hb; (try simp at hzz); have hz0 : w.heap.size < w1.heap.size := (by omega); (try (have hz1 : w.heap.size + 1 < w1.heap.size := (by omega))); (try (have hz2 : w.heap.size + 1 + 1 < w1.heap.size := (by omega)))) | (go_at_call 69; refine (s_In _ _ _ _).mono ?_; rintro e w' ⟨rfl, rfl⟩))
      refine into (Held [(w.heap.size + 1, 0, .int .i64 a), (w.heap.size + 1, 1, .int .i64 b), (w.heap.size, 0, .int .i64 x.k), (w.heap.size, 1, .int .i64 x.l), (w.heap.size, 2, .int .i64 x.r), (w.heap.size, 3, .int .i64 x.a), (w.heap.size, 4, .int .i64 x.b), (w.heap.size, 5, .int .i64 x.c), (w.heap.size, 6, .int .i64 x.d)] w) (Held.later hW (by repeat (first | (with_reducible exact Later.refl _) | (with_reducible exact Hid.out (by assumption)) | (with_reducible refine Later.alloc ?_ _) | (with_reducible refine Later.setCell ?_ (by simp; omega) _) | (with_reducible refine Later.setCell ?_ (by simp) _) | (with_reducible refine Later.drewN ?_ _) | (with_reducible refine Later.drew ?_) | (with_reducible refine Later.trans ?_ (Hid.out (by assumption)))))) ?_
      clear p0 p1 p2 p3 p4 p5 p6 p7 p8
      clear z0 z1
      intro W hW
      go_cut [8] (fun s W => s = .int .i64 mq ∧ Held [(w.heap.size + 1, 0, .int .i64 a), (w.heap.size + 1, 1, .int .i64 b), (w.heap.size, 0, .int .i64 x.k), (w.heap.size, 1, .int .i64 x.l), (w.heap.size, 2, .int .i64 x.r), (w.heap.size, 3, .int .i64 x.a), (w.heap.size, 4, .int .i64 x.b), (w.heap.size, 5, .int .i64 x.c), (w.heap.size, 6, .int .i64 x.d)] w W)
      case first =>
        by_cases hqn : q < 0
        · have hmm : max 0 q = 0 := by omega
          have hm0 : mq = 0 := by omega
          have hq1 : ¬ 0 < q := by omega
          have hq2 : ¬ 0 ≤ q := by omega
          subst hm0
          clear hmq HQ
          go_region_held3 (fun w' => w'.cell? ⟨w.heap.size + 1, 0, none⟩ = some (.int .i64 a) ∧ w'.cell? ⟨w.heap.size + 1, 1, none⟩ = some (.int .i64 b) ∧ w'.cell? ⟨w.heap.size, 0, none⟩ = some (.int .i64 x.k) ∧ w'.cell? ⟨w.heap.size, 1, none⟩ = some (.int .i64 x.l) ∧ w'.cell? ⟨w.heap.size, 2, none⟩ = some (.int .i64 x.r) ∧ w'.cell? ⟨w.heap.size, 3, none⟩ = some (.int .i64 x.a) ∧ w'.cell? ⟨w.heap.size, 4, none⟩ = some (.int .i64 x.b) ∧ w'.cell? ⟨w.heap.size, 5, none⟩ = some (.int .i64 x.c) ∧ w'.cell? ⟨w.heap.size, 6, none⟩ = some (.int .i64 x.d) ∧ Held [(w.heap.size + 1, 0, .int .i64 a), (w.heap.size + 1, 1, .int .i64 b), (w.heap.size, 0, .int .i64 x.k), (w.heap.size, 1, .int .i64 x.l), (w.heap.size, 2, .int .i64 x.r), (w.heap.size, 3, .int .i64 x.a), (w.heap.size, 4, .int .i64 x.b), (w.heap.size, 5, .int .i64 x.c), (w.heap.size, 6, .int .i64 x.d)] w w') (exact Held.s9 (Held.later hW (by repeat (first | exact Later.refl _ | refine Later.drew ?_ | refine Later.drewN ?_ _ | refine Later.alloc ?_ _ | refine Later.trans ?_ (Hid.out (by assumption))))))
            (first | (go_at_call 62; refine (HC _).mono ?_; rintro e w1 ⟨rfl, hb⟩; have H := Lib.hid hb; clear hb) | (go_at_call 70; refine (HD _).mono ?_; rintro e w1 ⟨rfl, rfl⟩))
          all_goals
            go_wp2_with fail
            all_goals
              go_meet
              exact ⟨by first | rfl | exact congrArg (Value.int .i64) (by omega), Held.later hW (by repeat (first | exact Later.refl _ | refine Later.drew ?_ | refine Later.drewN ?_ _ | refine Later.alloc ?_ _ | refine Later.trans ?_ (Hid.out (by assumption))))⟩
        · have hmm : max 0 q = q := by omega
          have hm0 : q = mq := by omega
          have hq2 : 0 ≤ q := by omega
          subst hm0
          clear hmq HQ
          go_region_held3 (fun w' => w'.cell? ⟨w.heap.size + 1, 0, none⟩ = some (.int .i64 a) ∧ w'.cell? ⟨w.heap.size + 1, 1, none⟩ = some (.int .i64 b) ∧ w'.cell? ⟨w.heap.size, 0, none⟩ = some (.int .i64 x.k) ∧ w'.cell? ⟨w.heap.size, 1, none⟩ = some (.int .i64 x.l) ∧ w'.cell? ⟨w.heap.size, 2, none⟩ = some (.int .i64 x.r) ∧ w'.cell? ⟨w.heap.size, 3, none⟩ = some (.int .i64 x.a) ∧ w'.cell? ⟨w.heap.size, 4, none⟩ = some (.int .i64 x.b) ∧ w'.cell? ⟨w.heap.size, 5, none⟩ = some (.int .i64 x.c) ∧ w'.cell? ⟨w.heap.size, 6, none⟩ = some (.int .i64 x.d) ∧ Held [(w.heap.size + 1, 0, .int .i64 a), (w.heap.size + 1, 1, .int .i64 b), (w.heap.size, 0, .int .i64 x.k), (w.heap.size, 1, .int .i64 x.l), (w.heap.size, 2, .int .i64 x.r), (w.heap.size, 3, .int .i64 x.a), (w.heap.size, 4, .int .i64 x.b), (w.heap.size, 5, .int .i64 x.c), (w.heap.size, 6, .int .i64 x.d)] w w') (exact Held.s9 (Held.later hW (by repeat (first | exact Later.refl _ | refine Later.drew ?_ | refine Later.drewN ?_ _ | refine Later.alloc ?_ _ | refine Later.trans ?_ (Hid.out (by assumption))))))
            (first | (go_at_call 62; refine (HC _).mono ?_; rintro e w1 ⟨rfl, hb⟩; have H := Lib.hid hb; clear hb) | (go_at_call 70; refine (HD _).mono ?_; rintro e w1 ⟨rfl, rfl⟩))
          all_goals
            go_wp2_with fail
            all_goals
              go_meet
              exact ⟨by first | rfl | exact congrArg (Value.int .i64) (by omega), Held.later hW (by repeat (first | exact Later.refl _ | refine Later.drew ?_ | refine Later.drewN ?_ _ | refine Later.alloc ?_ _ | refine Later.trans ?_ (Hid.out (by assumption))))⟩
      case rest =>
        obtain ⟨rfl, hW⟩ := hcut
        have HW2 := Lib.hid (Held.is hW)
        obtain ⟨p0, p1, p2, p3, p4, p5, p6, p7, p8, _⟩ := Held.s9 hW
        have z0 := Held.lt hW (w.heap.size) 0 (.int .i64 x.k) (by simp)
        have z1 := Held.lt hW (w.heap.size + 1) 0 (.int .i64 a) (by simp)
        rcases HQ with ⟨k1, k2, k3, k4⟩ | ⟨k1, k2, k3, k4⟩ | ⟨k1, k2, k3, k4⟩
        · have K := Lib.hid (And.intro k3 k4)
          clear k3 k4
          obtain rfl : mq = q := by omega
          have n1 : ¬ x.c < mq := by omega
          clear hmq
          go_wp2_with fail
          all_goals
            go_ret2
            exact ⟨by rw [K.out.1, K.out.2]; first | rfl | simp [*], HW2.out⟩
        · have K := Lib.hid (And.intro k3 k4)
          clear k3 k4
          have n1 : x.c < mq := by omega
          clear hmq
          go_wp2_with fail
          all_goals
            go_ret2
            exact ⟨by rw [K.out.1, K.out.2]; first | rfl | simp [*], HW2.out⟩
        · have K := Lib.hid (And.intro k3 k4)
          clear k3 k4
          obtain rfl : mq = 0 := by omega
          have n1 : ¬ x.c < 0 := by omega
          clear hmq
          go_wp2_with fail
          all_goals
            go_ret2
            exact ⟨by rw [K.out.1, K.out.2]; first | rfl | simp [*], HW2.out⟩
    · have hkb : (x.k != 2) = true := by simpa using hk
      have e1 : lfE x a b t = 5 := by unfold lfE; rw [if_pos hb, if_pos ⟨t1, t2⟩, if_neg hk]
      have e2 : lfV x a b t = 0 := by unfold lfV; rw [e1]; rfl
      rw [e1, e2]
      clear e1 e2 hb hk
      go_enter Try.func21, Try.ntmps21
      go_upto_region 1 with (fail)
      refine into (Held [(w.heap.size + 1, 0, .int .i64 a), (w.heap.size + 1, 1, .int .i64 b), (w.heap.size, 0, .int .i64 x.k), (w.heap.size, 1, .int .i64 x.l), (w.heap.size, 2, .int .i64 x.r), (w.heap.size, 3, .int .i64 x.a), (w.heap.size, 4, .int .i64 x.b), (w.heap.size, 5, .int .i64 x.c), (w.heap.size, 6, .int .i64 x.d)] w) (by first | exact (held_box (held_box (held_start w) (w.heap.size) [.int .i64 x.k, .int .i64 x.l, .int .i64 x.r, .int .i64 x.a, .int .i64 x.b, .int .i64 x.c, .int .i64 x.d] _ (by first | rfl | simp)) (w.heap.size + 1) [.int .i64 a, .int .i64 b] _ (by first | rfl | simp)) | simpa using (held_box (held_box (held_start w) (w.heap.size) [.int .i64 x.k, .int .i64 x.l, .int .i64 x.r, .int .i64 x.a, .int .i64 x.b, .int .i64 x.c, .int .i64 x.d] _ (by first | rfl | simp)) (w.heap.size + 1) [.int .i64 a, .int .i64 b] _ (by first | rfl | simp))) ?_
      intro W hW
      obtain ⟨p0, p1, p2, p3, p4, p5, p6, p7, p8, _⟩ := Held.s9 hW
      have z0 := Held.lt hW (w.heap.size) 0 (.int .i64 x.k) (by simp)
      have z1 := Held.lt hW (w.heap.size + 1) 0 (.int .i64 a) (by simp)
      have HW := Lib.hid (Held.is hW)
      go_wp2_with (first | (go_at_call 67; refine (s_IsSegment x _).mono ?_; rintro e w1 ⟨rfl, hb⟩; obtain ⟨H, hcc, hff, hzz⟩ := later_facts hb; clear hb; (try simp at hzz); have hz0 : w.heap.size < w1.heap.size := (by omega); (try (have hz1 : w.heap.size + 1 < w1.heap.size := (by omega))); (try (have hz2 : w.heap.size + 1 + 1 < w1.heap.size := (by omega)))) | (go_at_call 68; refine (s_IsEnergy _ _ _).mono ?_; rintro e w1 ⟨rfl, hb⟩; obtain ⟨H, hcc, hff, hzz⟩ := later_facts hb; clear hb; (try simp at hzz); have hz0 : w.heap.size < w1.heap.size := (by omega); (try (have hz1 : w.heap.size + 1 < w1.heap.size := (by omega))); (try (have hz2 : w.heap.size + 1 + 1 < w1.heap.size := (by omega)))) | (go_at_call 69; refine (s_In _ _ _ _).mono ?_; rintro e w' ⟨rfl, rfl⟩))
      go_ret2
      exact ⟨rfl, (by repeat (first | (with_reducible exact Later.refl _) | (with_reducible exact Hid.out (by assumption)) | (with_reducible refine Later.alloc ?_ _) | (with_reducible refine Later.setCell ?_ (by simp; omega) _) | (with_reducible refine Later.setCell ?_ (by simp) _) | (with_reducible refine Later.drewN ?_ _) | (with_reducible refine Later.drew ?_) | (with_reducible refine Later.trans ?_ (Hid.out (by assumption)))))⟩
  · have e1 : lfE x a b t = 2 := by unfold lfE; rw [if_pos hb, if_neg ht]
    have e2 : lfV x a b t = 0 := by unfold lfV; rw [e1]; rfl
    have t3 : (decide (0 ≤ t) && decide (t ≤ 10000000000)) = false := by
      rw [Bool.eq_false_iff]; simp; omega
    rw [e1, e2]
    clear e1 e2 hb
    go_enter Try.func21, Try.ntmps21
    go_wp2_with (first | (go_at_call 67; refine (s_IsSegment x _).mono ?_; rintro e w1 ⟨rfl, hb⟩; obtain ⟨H, hcc, hff, hzz⟩ := later_facts hb; clear hb; (try simp at hzz); have hz0 : w.heap.size < w1.heap.size := (by omega); (try (have hz1 : w.heap.size + 1 < w1.heap.size := (by omega))); (try (have hz2 : w.heap.size + 1 + 1 < w1.heap.size := (by omega)))) | (go_at_call 68; refine (s_IsEnergy _ _ _).mono ?_; rintro e w1 ⟨rfl, hb⟩; obtain ⟨H, hcc, hff, hzz⟩ := later_facts hb; clear hb; (try simp at hzz); have hz0 : w.heap.size < w1.heap.size := (by omega); (try (have hz1 : w.heap.size + 1 < w1.heap.size := (by omega))); (try (have hz2 : w.heap.size + 1 + 1 < w1.heap.size := (by omega)))) | (go_at_call 69; refine (s_In _ _ _ _).mono ?_; rintro e w' ⟨rfl, rfl⟩))
    go_ret2
    exact ⟨rfl, (by repeat (first | (with_reducible exact Later.refl _) | (with_reducible exact Hid.out (by assumption)) | (with_reducible refine Later.alloc ?_ _) | (with_reducible refine Later.setCell ?_ (by simp; omega) _) | (with_reducible refine Later.setCell ?_ (by simp) _) | (with_reducible refine Later.drewN ?_ _) | (with_reducible refine Later.drew ?_) | (with_reducible refine Later.trans ?_ (Hid.out (by assumption)))))⟩
set_option maxRecDepth 100000 in
theorem s_TurnDistance (x : Sg) (a b : Int) (w : World) :
    Calls Try.prog 25 #[.agg #[.int .i64 x.k, .int .i64 x.l, .int .i64 x.r, .int .i64 x.a, .int .i64 x.b, .int .i64 x.c, .int .i64 x.d], .agg #[.int .i64 a, .int .i64 b]] w fun e w' => e = .returned (.tuple #[.agg #[.int .i64 (tdL x a b), .int .i64 (tdH x a b)], .int .i64 (tdE x a b)]) ∧ Later w w' := by
  cases h : sgB x
  · have e1 : tdE x a b = 1 := by unfold tdE; rw [h]; rfl
    have e2 : tdL x a b = 0 := by unfold tdL; rw [e1]; rfl
    have e3 : tdH x a b = 0 := by unfold tdH; rw [e1]; rfl
    rw [e1, e2, e3]
    clear e1 e2 e3
    go_enter Try.func25, Try.ntmps25
    go_wp2_with (go_at_call 67; refine (s_IsSegment x _).mono ?_; rintro e w1 ⟨rfl, hb⟩; obtain ⟨H, hcc, hff, hzz⟩ := later_facts hb; clear hb; (try simp at hzz); have hz0 : w.heap.size < w1.heap.size := (by omega); (try (have hz1 : w.heap.size + 1 < w1.heap.size := (by omega))); (try (have hz2 : w.heap.size + 1 + 1 < w1.heap.size := (by omega))))
    refine bodyPost_ret (v := .tuple #[.agg #[.int .i64 0, .int .i64 0], .int .i64 1]) (by simp [results, Try.results25, go_sem, *]) rfl ⟨rfl, (by repeat (first | (with_reducible exact Later.refl _) | (with_reducible exact Hid.out (by assumption)) | (with_reducible refine Later.alloc ?_ _) | (with_reducible refine Later.setCell ?_ (by simp; omega) _) | (with_reducible refine Later.setCell ?_ (by simp) _) | (with_reducible refine Later.drewN ?_ _) | (with_reducible refine Later.drew ?_) | (with_reducible refine Later.trans ?_ (Hid.out (by assumption)))))⟩
  cases h2 : enB a b
  · have e1 : tdE x a b = 1 := by unfold tdE; rw [h, h2]; rfl
    have e2 : tdL x a b = 0 := by unfold tdL; rw [e1]; rfl
    have e3 : tdH x a b = 0 := by unfold tdH; rw [e1]; rfl
    rw [e1, e2, e3]
    clear e1 e2 e3
    go_enter Try.func25, Try.ntmps25
    go_wp2_with (first | (go_at_call 67; refine (s_IsSegment x _).mono ?_; rintro e w1 ⟨rfl, hb⟩; obtain ⟨H, hcc, hff, hzz⟩ := later_facts hb; clear hb; (try simp at hzz); have hz0 : w.heap.size < w1.heap.size := (by omega); (try (have hz1 : w.heap.size + 1 < w1.heap.size := (by omega))); (try (have hz2 : w.heap.size + 1 + 1 < w1.heap.size := (by omega)))) | (go_at_call 68; refine (s_IsEnergy _ _ _).mono ?_; rintro e w1 ⟨rfl, hb⟩; obtain ⟨H, hcc, hff, hzz⟩ := later_facts hb; clear hb; (try simp at hzz); have hz0 : w.heap.size < w1.heap.size := (by omega); (try (have hz1 : w.heap.size + 1 < w1.heap.size := (by omega))); (try (have hz2 : w.heap.size + 1 + 1 < w1.heap.size := (by omega)))))
    refine bodyPost_ret (v := .tuple #[.agg #[.int .i64 0, .int .i64 0], .int .i64 1]) (by simp [results, Try.results25, go_sem, *]) rfl ⟨rfl, (by repeat (first | (with_reducible exact Later.refl _) | (with_reducible exact Hid.out (by assumption)) | (with_reducible refine Later.alloc ?_ _) | (with_reducible refine Later.setCell ?_ (by simp; omega) _) | (with_reducible refine Later.setCell ?_ (by simp) _) | (with_reducible refine Later.drewN ?_ _) | (with_reducible refine Later.drew ?_) | (with_reducible refine Later.trans ?_ (Hid.out (by assumption)))))⟩
  have hb : (sgB x && enB a b) = true := by rw [h, h2]; rfl
  have hc := ch_bd x h
  have hev := (ch_even x).2
  have e := (enB_iff a b).1 h2
  have HC := fun w => s_Change x w h
  by_cases hn : b + chH x < 0
  · have e1 : tdE x a b = 0 := by unfold tdE; rw [if_pos hb, if_pos hn]
    have e2 : tdL x a b = flo (a * x.l) (-chL x) := by unfold tdL okV; rw [e1]; rfl
    have e3 : tdH x a b = cei (b * x.l) (-chH x) := by unfold tdH okV; rw [e1]; rfl
    rw [e1, e2, e3]
    obtain ⟨l1, l2⟩ := ((sgB_iff x).1 h).2.1
    have m1 := nn_mul a x.l (by omega) (by omega) l1 l2
    have m2 := nn_mul b x.l (by omega) (by omega) l1 l2
    obtain ⟨A, hA⟩ : ∃ A, A = a * x.l := ⟨_, rfl⟩
    obtain ⟨B, hB⟩ : ∃ B, B = b * x.l := ⟨_, rfl⟩
    rw [← hA] at m1; rw [← hB] at m2
    have v1 : IntKind.i64.wrap (a * x.l) = A := by rw [← hA]; exact IntWalk.i64_in _ ⟨by omega, by omega⟩
    have v2 : IntKind.i64.wrap (b * x.l) = B := by rw [← hB]; exact IntWalk.i64_in _ ⟨by omega, by omega⟩
    rw [← hA, ← hB]
    generalize chL x = y at *
    generalize chH x = z at *
    have HFl := fun w => s_FloorB A (-y) w (by omega) (by omega) (by omega) (by omega) (by omega)
    have HCe := fun w => s_CeilB B (-z) w (by omega) (by omega) (by omega) (by omega) (by omega)
    have v3 : IntKind.i64.wrap (-y) = -y := IntWalk.i64_in _ ⟨by omega, by omega⟩
    have v4 : IntKind.i64.wrap (-z) = -z := IntWalk.i64_in _ ⟨by omega, by omega⟩
    have v5 : IntKind.i64.wrap (b + z) = b + z := IntWalk.i64_in _ ⟨by omega, by omega⟩
    have n1 : ¬ -2 < z := by omega
    have n2 : ¬ 0 ≤ b + z := by omega
    generalize flo A (-y) = fA at *
    generalize cei B (-z) = cB at *
    clear e1 e2 e3 hb m1 m2 hc e hn hA hB hev
    go_enter Try.func25, Try.ntmps25
    go_upto_region 1 with (fail)
    refine into (fun W => Held [(w.heap.size + 1, 0, .int .i64 a), (w.heap.size + 1, 1, .int .i64 b), (w.heap.size, 0, .int .i64 x.k), (w.heap.size, 1, .int .i64 x.l), (w.heap.size, 2, .int .i64 x.r), (w.heap.size, 3, .int .i64 x.a), (w.heap.size, 4, .int .i64 x.b), (w.heap.size, 5, .int .i64 x.c), (w.heap.size, 6, .int .i64 x.d)] w W ∧ Fr (w.heap.size + 1 + 1) [.int .i64 0, .int .i64 0] W) ⟨?_, ?_⟩ ?_
    · exact ((held_box (held_box (held_start w) (w.heap.size) [.int .i64 x.k, .int .i64 x.l, .int .i64 x.r, .int .i64 x.a, .int .i64 x.b, .int .i64 x.c, .int .i64 x.d] _ (by first | rfl | simp)) (w.heap.size + 1) [.int .i64 a, .int .i64 b] _ (by first | rfl | simp))).alloc _
    · have F := fr_alloc (X := ((w.alloc (.cells [(.int .i64 x.k : Value), .int .i64 x.l, .int .i64 x.r, .int .i64 x.a, .int .i64 x.b, .int .i64 x.c, .int .i64 x.d].toArray 27)).alloc (.cells [(.int .i64 a : Value), .int .i64 b].toArray 25))) (l := [.int .i64 0, .int .i64 0]) (T := 25) (Later.refl _)
      simp only [World.size_alloc] at F
      exact F
    rintro W ⟨hW, hF⟩
    obtain ⟨p0, p1, p2, p3, p4, p5, p6, p7, p8, _⟩ := Held.s9 hW
    have z0 := Held.lt hW (w.heap.size) 0 (.int .i64 x.k) (by simp)
    have z1 := Held.lt hW (w.heap.size + 1) 0 (.int .i64 a) (by simp)
    obtain ⟨r0, r1, r2, r3⟩ := Fr.o2 hF
    have zr := Fr.lt hF
    have HW := Lib.hid (Held.is hW)
    go_upto_region 4 with (first | (go_at_call 67; refine (s_IsSegment x _).mono ?_; rintro e w1 ⟨rfl, hb⟩; obtain ⟨H, hcc, hff, hzz⟩ := later_facts hb; clear hb; (try simp at hzz); have hz0 : w.heap.size < w1.heap.size := (by omega); (try (have hz1 : w.heap.size + 1 < w1.heap.size := (by omega))); (try (have hz2 : w.heap.size + 1 + 1 < w1.heap.size := (by omega)))) | (go_at_call 68; refine (s_IsEnergy _ _ _).mono ?_; rintro e w1 ⟨rfl, hb⟩; obtain ⟨H, hcc, hff, hzz⟩ := later_facts hb; clear hb; (try simp at hzz); have hz0 : w.heap.size < w1.heap.size := (by omega); (try (have hz1 : w.heap.size + 1 < w1.heap.size := (by omega))); (try (have hz2 : w.heap.size + 1 + 1 < w1.heap.size := (by omega)))) | (go_at_call 62; refine (HC _).mono ?_; rintro e w7 ⟨rfl, hb⟩; have H7 : Hid (Later W w7) := Lib.hid (Later.trans (by repeat (first | (with_reducible exact Later.refl _) | (with_reducible exact Hid.out (by assumption)) | (with_reducible refine Later.alloc ?_ _) | (with_reducible refine Later.setCell ?_ (by simp; omega) _) | (with_reducible refine Later.setCell ?_ (by simp) _) | (with_reducible refine Later.drewN ?_ _) | (with_reducible refine Later.drew ?_) | (with_reducible refine Later.trans ?_ (Hid.out (by assumption))))) hb); obtain ⟨H, hcc, hff, hzz⟩ := later_facts hb; clear hb; have hy0 : w.heap.size < w7.heap.size := (by omega); have hy1 : w.heap.size + 1 < w7.heap.size := (by omega); have hy2 : w.heap.size + 1 + 1 < w7.heap.size := (by omega)))
    have hgz : w.heap.size + 1 + 1 < w7.heap.size := by have := H7.out.size; omega
    refine into (fun W => Held ((w7.heap.size, 0, .int .i64 y) :: (w7.heap.size, 1, .int .i64 z) :: [(w.heap.size + 1, 0, .int .i64 a), (w.heap.size + 1, 1, .int .i64 b), (w.heap.size, 0, .int .i64 x.k), (w.heap.size, 1, .int .i64 x.l), (w.heap.size, 2, .int .i64 x.r), (w.heap.size, 3, .int .i64 x.a), (w.heap.size, 4, .int .i64 x.b), (w.heap.size, 5, .int .i64 x.c), (w.heap.size, 6, .int .i64 x.d)]) w W ∧ Fr (w.heap.size + 1 + 1) [.int .i64 0, .int .i64 0] W) ⟨held_box (Held.later hW (by repeat (first | exact H7.out | refine Later.drew ?_ | refine Later.drewN ?_ _))) w7.heap.size [.int .i64 y, .int .i64 z] _ rfl, fr_later hF ((by repeat (first | exact H7.out | refine Later.alloc ?_ _ | refine Later.drew ?_ | refine Later.drewN ?_ _)))⟩ ?_
    clear p0 p1 p2 p3 p4 p5 p6 p7 p8 r0 r1 r2 r3
    clear hcc hff hzz H
    rintro W' ⟨hW, F⟩
    clear hF
    have hW : Held [(w7.heap.size, 0, .int .i64 y), (w7.heap.size, 1, .int .i64 z), (w.heap.size + 1, 0, .int .i64 a), (w.heap.size + 1, 1, .int .i64 b), (w.heap.size, 1, .int .i64 x.l)] w W' := ⟨fun x hx => hW.1 x (by simp at hx ⊢; rcases hx with rfl | rfl | rfl | rfl | rfl <;> simp), hW.2⟩
    obtain ⟨r0, r1, r2, r3⟩ := Fr.o2 F
    have z3 := hW.lt w7.heap.size 0 (.int .i64 y) (by simp)
    have ne1 : ¬ w7.heap.size = w.heap.size + 1 + 1 := by omega
    have ne2 : ¬ w.heap.size + 1 + 1 = w7.heap.size := by omega
    have hls : ∀ yy ∈ ([(w7.heap.size, 0, .int .i64 y), (w7.heap.size, 1, .int .i64 z), (w.heap.size + 1, 0, .int .i64 a), (w.heap.size + 1, 1, .int .i64 b), (w.heap.size, 1, .int .i64 x.l)] : List (Nat × Nat × Value)), yy.1 ≠ w.heap.size + 1 + 1 := by
      intro yy hx; simp at hx; rcases hx with rfl | rfl | rfl | rfl | rfl <;> simp <;> omega
    obtain ⟨u0, u1, u2, u3, u4, _⟩ := Held.s5 hW
    go_upto_region 6 with fail
    clear u0 u1 u2 u3 u4
    go_region_held3 (fun w' => w'.cell? ⟨w7.heap.size, 0, none⟩ = some (.int .i64 y) ∧ w'.cell? ⟨w7.heap.size, 1, none⟩ = some (.int .i64 z) ∧ w'.cell? ⟨w.heap.size + 1, 0, none⟩ = some (.int .i64 a) ∧ w'.cell? ⟨w.heap.size + 1, 1, none⟩ = some (.int .i64 b) ∧ w'.cell? ⟨w.heap.size, 1, none⟩ = some (.int .i64 x.l) ∧ Held [(w7.heap.size, 0, .int .i64 y), (w7.heap.size, 1, .int .i64 z), (w.heap.size + 1, 0, .int .i64 a), (w.heap.size + 1, 1, .int .i64 b), (w.heap.size, 1, .int .i64 x.l)] w w') ((refine Held.s5 ?_; (repeat (first | refine Held.drew ?_ | refine Held.drewN ?_ _ | refine Held.setNe ?_ _ _ hls (by simp <;> omega))); refine Held.later hW ?_; repeat (first | exact Later.refl _ | refine Later.drew ?_ | refine Later.drewN ?_ _ | refine Later.alloc ?_ _ | refine Later.trans ?_ (Hid.out (by assumption)))))
      (first | (go_at_call 75; refine (HFl _).mono ?_; rintro e w' ⟨rfl, rfl⟩) | (go_at_call 70; refine (HCe _).mono ?_; rintro e w' ⟨rfl, rfl⟩))
    all_goals
      go_wp2_with fail
      refine bodyPost_ret (v := .tuple #[.agg #[.int .i64 fA, .int .i64 cB], .int .i64 0]) (by simp [results, Try.results25, go_sem, *]) rfl ⟨rfl, (by repeat (first | exact Held.is hW | refine Later.drew ?_ | refine Later.drewN ?_ _ | refine Later.setCell ?_ (by simp <;> omega) _))⟩
  · have e1 : tdE x a b = 5 := by unfold tdE; rw [if_pos hb, if_neg hn]
    have e2 : tdL x a b = 0 := by unfold tdL; rw [e1]; rfl
    have e3 : tdH x a b = 0 := by unfold tdH; rw [e1]; rfl
    rw [e1, e2, e3]
    generalize chL x = y at *
    generalize chH x = z at *
    by_cases hz : -2 < z
    · clear e1 e2 e3 hb hev
      go_enter Try.func25, Try.ntmps25
      go_upto_region 1 with (fail)
      refine into (fun W => Held [(w.heap.size + 1, 0, .int .i64 a), (w.heap.size + 1, 1, .int .i64 b), (w.heap.size, 0, .int .i64 x.k), (w.heap.size, 1, .int .i64 x.l), (w.heap.size, 2, .int .i64 x.r), (w.heap.size, 3, .int .i64 x.a), (w.heap.size, 4, .int .i64 x.b), (w.heap.size, 5, .int .i64 x.c), (w.heap.size, 6, .int .i64 x.d)] w W ∧ Fr (w.heap.size + 1 + 1) [.int .i64 0, .int .i64 0] W) ⟨?_, ?_⟩ ?_
      · exact ((held_box (held_box (held_start w) (w.heap.size) [.int .i64 x.k, .int .i64 x.l, .int .i64 x.r, .int .i64 x.a, .int .i64 x.b, .int .i64 x.c, .int .i64 x.d] _ (by first | rfl | simp)) (w.heap.size + 1) [.int .i64 a, .int .i64 b] _ (by first | rfl | simp))).alloc _
      · have F := fr_alloc (X := ((w.alloc (.cells [(.int .i64 x.k : Value), .int .i64 x.l, .int .i64 x.r, .int .i64 x.a, .int .i64 x.b, .int .i64 x.c, .int .i64 x.d].toArray 27)).alloc (.cells [(.int .i64 a : Value), .int .i64 b].toArray 25))) (l := [.int .i64 0, .int .i64 0]) (T := 25) (Later.refl _)
        simp only [World.size_alloc] at F
        exact F
      rintro W ⟨hW, hF⟩
      obtain ⟨p0, p1, p2, p3, p4, p5, p6, p7, p8, _⟩ := Held.s9 hW
      have z0 := Held.lt hW (w.heap.size) 0 (.int .i64 x.k) (by simp)
      have z1 := Held.lt hW (w.heap.size + 1) 0 (.int .i64 a) (by simp)
      obtain ⟨r0, r1, r2, r3⟩ := Fr.o2 hF
      have zr := Fr.lt hF
      have HW := Lib.hid (Held.is hW)
      go_wp2_with (first | (go_at_call 67; refine (s_IsSegment x _).mono ?_; rintro e w1 ⟨rfl, hb⟩; obtain ⟨H, hcc, hff, hzz⟩ := later_facts hb; clear hb; (try simp at hzz); have hz0 : w.heap.size < w1.heap.size := (by omega); (try (have hz1 : w.heap.size + 1 < w1.heap.size := (by omega))); (try (have hz2 : w.heap.size + 1 + 1 < w1.heap.size := (by omega)))) | (go_at_call 68; refine (s_IsEnergy _ _ _).mono ?_; rintro e w1 ⟨rfl, hb⟩; obtain ⟨H, hcc, hff, hzz⟩ := later_facts hb; clear hb; (try simp at hzz); have hz0 : w.heap.size < w1.heap.size := (by omega); (try (have hz1 : w.heap.size + 1 < w1.heap.size := (by omega))); (try (have hz2 : w.heap.size + 1 + 1 < w1.heap.size := (by omega)))) | (go_at_call 62; refine (HC _).mono ?_; rintro e w7 ⟨rfl, hb⟩; have H7 : Hid (Later W w7) := Lib.hid (Later.trans (by repeat (first | (with_reducible exact Later.refl _) | (with_reducible exact Hid.out (by assumption)) | (with_reducible refine Later.alloc ?_ _) | (with_reducible refine Later.setCell ?_ (by simp; omega) _) | (with_reducible refine Later.setCell ?_ (by simp) _) | (with_reducible refine Later.drewN ?_ _) | (with_reducible refine Later.drew ?_) | (with_reducible refine Later.trans ?_ (Hid.out (by assumption))))) hb); obtain ⟨H, hcc, hff, hzz⟩ := later_facts hb; clear hb; have hy0 : w.heap.size < w7.heap.size := (by omega); have hy1 : w.heap.size + 1 < w7.heap.size := (by omega); have hy2 : w.heap.size + 1 + 1 < w7.heap.size := (by omega)))
      refine bodyPost_ret (v := .tuple #[.agg #[.int .i64 0, .int .i64 0], .int .i64 5]) (by simp [results, Try.results25, go_sem, *]) rfl ⟨rfl, (by repeat (first | (with_reducible exact Later.refl _) | (with_reducible exact Hid.out (by assumption)) | (with_reducible refine Later.alloc ?_ _) | (with_reducible refine Later.setCell ?_ (by simp; omega) _) | (with_reducible refine Later.setCell ?_ (by simp) _) | (with_reducible refine Later.drewN ?_ _) | (with_reducible refine Later.drew ?_) | (with_reducible refine Later.trans ?_ (Hid.out (by assumption)))))⟩
    · have n2 : 0 ≤ b + z := by omega
      have v5 : IntKind.i64.wrap (b + z) = b + z := IntWalk.i64_in _ ⟨by omega, by omega⟩
      clear e1 e2 e3 hb hev
      go_enter Try.func25, Try.ntmps25
      go_upto_region 1 with (fail)
      refine into (fun W => Held [(w.heap.size + 1, 0, .int .i64 a), (w.heap.size + 1, 1, .int .i64 b), (w.heap.size, 0, .int .i64 x.k), (w.heap.size, 1, .int .i64 x.l), (w.heap.size, 2, .int .i64 x.r), (w.heap.size, 3, .int .i64 x.a), (w.heap.size, 4, .int .i64 x.b), (w.heap.size, 5, .int .i64 x.c), (w.heap.size, 6, .int .i64 x.d)] w W ∧ Fr (w.heap.size + 1 + 1) [.int .i64 0, .int .i64 0] W) ⟨?_, ?_⟩ ?_
      · exact ((held_box (held_box (held_start w) (w.heap.size) [.int .i64 x.k, .int .i64 x.l, .int .i64 x.r, .int .i64 x.a, .int .i64 x.b, .int .i64 x.c, .int .i64 x.d] _ (by first | rfl | simp)) (w.heap.size + 1) [.int .i64 a, .int .i64 b] _ (by first | rfl | simp))).alloc _
      · have F := fr_alloc (X := ((w.alloc (.cells [(.int .i64 x.k : Value), .int .i64 x.l, .int .i64 x.r, .int .i64 x.a, .int .i64 x.b, .int .i64 x.c, .int .i64 x.d].toArray 27)).alloc (.cells [(.int .i64 a : Value), .int .i64 b].toArray 25))) (l := [.int .i64 0, .int .i64 0]) (T := 25) (Later.refl _)
        simp only [World.size_alloc] at F
        exact F
      rintro W ⟨hW, hF⟩
      obtain ⟨p0, p1, p2, p3, p4, p5, p6, p7, p8, _⟩ := Held.s9 hW
      have z0 := Held.lt hW (w.heap.size) 0 (.int .i64 x.k) (by simp)
      have z1 := Held.lt hW (w.heap.size + 1) 0 (.int .i64 a) (by simp)
      obtain ⟨r0, r1, r2, r3⟩ := Fr.o2 hF
      have zr := Fr.lt hF
      have HW := Lib.hid (Held.is hW)
      go_wp2_with (first | (go_at_call 67; refine (s_IsSegment x _).mono ?_; rintro e w1 ⟨rfl, hb⟩; obtain ⟨H, hcc, hff, hzz⟩ := later_facts hb; clear hb; (try simp at hzz); have hz0 : w.heap.size < w1.heap.size := (by omega); (try (have hz1 : w.heap.size + 1 < w1.heap.size := (by omega))); (try (have hz2 : w.heap.size + 1 + 1 < w1.heap.size := (by omega)))) | (go_at_call 68; refine (s_IsEnergy _ _ _).mono ?_; rintro e w1 ⟨rfl, hb⟩; obtain ⟨H, hcc, hff, hzz⟩ := later_facts hb; clear hb; (try simp at hzz); have hz0 : w.heap.size < w1.heap.size := (by omega); (try (have hz1 : w.heap.size + 1 < w1.heap.size := (by omega))); (try (have hz2 : w.heap.size + 1 + 1 < w1.heap.size := (by omega)))) | (go_at_call 62; refine (HC _).mono ?_; rintro e w7 ⟨rfl, hb⟩; have H7 : Hid (Later W w7) := Lib.hid (Later.trans (by repeat (first | (with_reducible exact Later.refl _) | (with_reducible exact Hid.out (by assumption)) | (with_reducible refine Later.alloc ?_ _) | (with_reducible refine Later.setCell ?_ (by simp; omega) _) | (with_reducible refine Later.setCell ?_ (by simp) _) | (with_reducible refine Later.drewN ?_ _) | (with_reducible refine Later.drew ?_) | (with_reducible refine Later.trans ?_ (Hid.out (by assumption))))) hb); obtain ⟨H, hcc, hff, hzz⟩ := later_facts hb; clear hb; have hy0 : w.heap.size < w7.heap.size := (by omega); have hy1 : w.heap.size + 1 < w7.heap.size := (by omega); have hy2 : w.heap.size + 1 + 1 < w7.heap.size := (by omega)))
      refine bodyPost_ret (v := .tuple #[.agg #[.int .i64 0, .int .i64 0], .int .i64 5]) (by simp [results, Try.results25, go_sem, *]) rfl ⟨rfl, (by repeat (first | (with_reducible exact Later.refl _) | (with_reducible exact Hid.out (by assumption)) | (with_reducible refine Later.alloc ?_ _) | (with_reducible refine Later.setCell ?_ (by simp; omega) _) | (with_reducible refine Later.setCell ?_ (by simp) _) | (with_reducible refine Later.drewN ?_ _) | (with_reducible refine Later.drew ?_) | (with_reducible refine Later.trans ?_ (Hid.out (by assumption)))))⟩
set_option maxRecDepth 100000 in
theorem s_LiftTime (x : Sg) (w : World) :
    Calls Try.prog 28 #[.agg #[.int .i64 x.k, .int .i64 x.l, .int .i64 x.r, .int .i64 x.a, .int .i64 x.b, .int .i64 x.c, .int .i64 x.d]] w fun e w' => e = .returned (.tuple #[.agg #[.int .i64 (ltL x), .int .i64 (ltH x)], .int .i64 (ltE x)]) ∧ Later w w' := by
  cases h : sgB x
  · have e1 : ltE x = 1 := by unfold ltE; rw [h]; rfl
    have e2 : ltL x = 0 := by unfold ltL; rw [e1]; rfl
    have e3 : ltH x = 0 := by unfold ltH; rw [e1]; rfl
    rw [e1, e2, e3]
    clear e1 e2 e3
    go_enter Try.func28, Try.ntmps28
    go_wp2_with (go_at_call 67; refine (s_IsSegment x _).mono ?_; rintro e w1 ⟨rfl, hb⟩; obtain ⟨H, hcc, hff, hzz⟩ := later_facts hb; clear hb; (try simp at hzz); have hz0 : w.heap.size < w1.heap.size := (by omega); (try (have hz1 : w.heap.size + 1 < w1.heap.size := (by omega))); (try (have hz2 : w.heap.size + 1 + 1 < w1.heap.size := (by omega))))
    refine bodyPost_ret (v := .tuple #[.agg #[.int .i64 0, .int .i64 0], .int .i64 1]) (by simp [results, Try.results28, go_sem, *]) rfl ⟨rfl, (by repeat (first | (with_reducible exact Later.refl _) | (with_reducible exact Hid.out (by assumption)) | (with_reducible refine Later.alloc ?_ _) | (with_reducible refine Later.setCell ?_ (by simp; omega) _) | (with_reducible refine Later.setCell ?_ (by simp) _) | (with_reducible refine Later.drewN ?_ _) | (with_reducible refine Later.drew ?_) | (with_reducible refine Later.trans ?_ (Hid.out (by assumption)))))⟩
  · by_cases hk : x.k = 1
    · have hkb : (x.k != 1) = false := by simpa using hk
      have e1 : ltE x = 0 := by unfold ltE; rw [h, if_pos rfl, if_pos hk]
      have e2 : ltL x = flo (1000 * x.l) x.d := by unfold ltL okV; rw [e1]; rfl
      have e3 : ltH x = cei (1000 * x.l) x.c := by unfold ltH okV; rw [e1]; rfl
      rw [e1, e2, e3]
      have g := (sgB_iff x).1 h
      obtain ⟨l1, l2⟩ := g.2.1
      have f := g.2.2.2.2.2 (by omega)
      have v1 : IntKind.i64.wrap (1000 * x.l) = 1000 * x.l := IntWalk.i64_in _ ⟨by omega, by omega⟩
      have HFl := fun w => s_FloorB (1000 * x.l) x.d w (by omega) (by omega) (by omega) (by omega) (by omega)
      have HCe := fun w => s_CeilB (1000 * x.l) x.c w (by omega) (by omega) (by omega) (by omega) (by omega)
      generalize flo (1000 * x.l) x.d = fA at *
      generalize cei (1000 * x.l) x.c = cB at *
      clear e1 e2 e3 g f hk
      go_enter Try.func28, Try.ntmps28
      go_upto_region 1 with (fail)
      refine into (fun W => Held [(w.heap.size, 0, .int .i64 x.k), (w.heap.size, 1, .int .i64 x.l), (w.heap.size, 2, .int .i64 x.r), (w.heap.size, 3, .int .i64 x.a), (w.heap.size, 4, .int .i64 x.b), (w.heap.size, 5, .int .i64 x.c), (w.heap.size, 6, .int .i64 x.d)] w W ∧ Fr (w.heap.size + 1) [.int .i64 0, .int .i64 0] W) ⟨?_, ?_⟩ ?_
      · exact ((held_box (held_start w) (w.heap.size) [.int .i64 x.k, .int .i64 x.l, .int .i64 x.r, .int .i64 x.a, .int .i64 x.b, .int .i64 x.c, .int .i64 x.d] _ (by first | rfl | simp))).alloc _
      · have F := fr_alloc (X := (w.alloc (.cells [(.int .i64 x.k : Value), .int .i64 x.l, .int .i64 x.r, .int .i64 x.a, .int .i64 x.b, .int .i64 x.c, .int .i64 x.d].toArray 27))) (l := [.int .i64 0, .int .i64 0]) (T := 25) (Later.refl _)
        simp only [World.size_alloc] at F
        exact F
      rintro W ⟨hW, hF⟩
      obtain ⟨p0, p1, p2, p3, p4, p5, p6, _⟩ := Held.s7 hW
      have z0 := Held.lt hW (w.heap.size) 0 (.int .i64 x.k) (by simp)
      obtain ⟨r0, r1, r2, r3⟩ := Fr.o2 hF
      have zr := Fr.lt hF
      have HW := Lib.hid (Held.is hW)
      go_upto_region 5 with (go_at_call 67; refine (s_IsSegment x _).mono ?_; rintro e w1 ⟨rfl, hb⟩; obtain ⟨H, hcc, hff, hzz⟩ := later_facts hb; clear hb; (try simp at hzz); have hz0 : w.heap.size < w1.heap.size := (by omega); (try (have hz1 : w.heap.size + 1 < w1.heap.size := (by omega))); (try (have hz2 : w.heap.size + 1 + 1 < w1.heap.size := (by omega))))
      refine into (fun W => Held [(w.heap.size, 0, .int .i64 x.k), (w.heap.size, 1, .int .i64 x.l), (w.heap.size, 2, .int .i64 x.r), (w.heap.size, 3, .int .i64 x.a), (w.heap.size, 4, .int .i64 x.b), (w.heap.size, 5, .int .i64 x.c), (w.heap.size, 6, .int .i64 x.d)] w W ∧ Fr (w.heap.size + 1) [.int .i64 0, .int .i64 0] W) ⟨Held.later hW (by repeat (first | (with_reducible exact Later.refl _) | (with_reducible exact Hid.out (by assumption)) | (with_reducible refine Later.alloc ?_ _) | (with_reducible refine Later.setCell ?_ (by simp; omega) _) | (with_reducible refine Later.setCell ?_ (by simp) _) | (with_reducible refine Later.drewN ?_ _) | (with_reducible refine Later.drew ?_) | (with_reducible refine Later.trans ?_ (Hid.out (by assumption))))), fr_later hF (by repeat (first | (with_reducible exact Later.refl _) | (with_reducible exact Hid.out (by assumption)) | (with_reducible refine Later.alloc ?_ _) | (with_reducible refine Later.setCell ?_ (by simp; omega) _) | (with_reducible refine Later.setCell ?_ (by simp) _) | (with_reducible refine Later.drewN ?_ _) | (with_reducible refine Later.drew ?_) | (with_reducible refine Later.trans ?_ (Hid.out (by assumption)))))⟩ ?_
      clear p0 p1 p2 p3 p4 p5 p6 r0 r1 r2 r3
      clear hcc hff hzz H
      rintro W' ⟨hW, F⟩
      clear hF
      have hW : Held [(w.heap.size, 1, .int .i64 x.l), (w.heap.size, 5, .int .i64 x.c), (w.heap.size, 6, .int .i64 x.d)] w W' := ⟨fun x hx => hW.1 x (by simp at hx ⊢; rcases hx with rfl | rfl | rfl <;> simp), hW.2⟩
      obtain ⟨r0, r1, r2, r3⟩ := Fr.o2 F
      have hls : ∀ yy ∈ ([(w.heap.size, 1, .int .i64 x.l), (w.heap.size, 5, .int .i64 x.c), (w.heap.size, 6, .int .i64 x.d)] : List (Nat × Nat × Value)), yy.1 ≠ w.heap.size + 1 := by
        intro yy hx; simp at hx; rcases hx with rfl | rfl | rfl <;> simp <;> omega
      go_region_held3 (fun w' => w'.cell? ⟨w.heap.size, 1, none⟩ = some (.int .i64 x.l) ∧ w'.cell? ⟨w.heap.size, 5, none⟩ = some (.int .i64 x.c) ∧ w'.cell? ⟨w.heap.size, 6, none⟩ = some (.int .i64 x.d) ∧ Held [(w.heap.size, 1, .int .i64 x.l), (w.heap.size, 5, .int .i64 x.c), (w.heap.size, 6, .int .i64 x.d)] w w') ((refine Held.s3 ?_; (repeat (first | refine Held.drew ?_ | refine Held.drewN ?_ _ | refine Held.setNe ?_ _ _ hls (by simp <;> omega))); refine Held.later hW ?_; repeat (first | exact Later.refl _ | refine Later.drew ?_ | refine Later.drewN ?_ _ | refine Later.alloc ?_ _ | refine Later.trans ?_ (Hid.out (by assumption)))))
        (first | (go_at_call 75; refine (HFl _).mono ?_; rintro e w' ⟨rfl, rfl⟩) | (go_at_call 70; refine (HCe _).mono ?_; rintro e w' ⟨rfl, rfl⟩))
      all_goals
        go_wp2_with fail
        refine bodyPost_ret (v := .tuple #[.agg #[.int .i64 fA, .int .i64 cB], .int .i64 0]) (by simp [results, Try.results28, go_sem, *]) rfl ⟨rfl, (by repeat (first | exact Held.is hW | refine Later.drew ?_ | refine Later.drewN ?_ _ | refine Later.setCell ?_ (by simp <;> omega) _))⟩
    · have hkb : (x.k != 1) = true := by simpa using hk
      have e1 : ltE x = 5 := by unfold ltE; rw [h, if_pos rfl, if_neg hk]
      have e2 : ltL x = 0 := by unfold ltL; rw [e1]; rfl
      have e3 : ltH x = 0 := by unfold ltH; rw [e1]; rfl
      rw [e1, e2, e3]
      clear e1 e2 e3 hk
      go_enter Try.func28, Try.ntmps28
      go_upto_region 1 with (fail)
      refine into (fun W => Held [(w.heap.size, 0, .int .i64 x.k), (w.heap.size, 1, .int .i64 x.l), (w.heap.size, 2, .int .i64 x.r), (w.heap.size, 3, .int .i64 x.a), (w.heap.size, 4, .int .i64 x.b), (w.heap.size, 5, .int .i64 x.c), (w.heap.size, 6, .int .i64 x.d)] w W ∧ Fr (w.heap.size + 1) [.int .i64 0, .int .i64 0] W) ⟨?_, ?_⟩ ?_
      · exact ((held_box (held_start w) (w.heap.size) [.int .i64 x.k, .int .i64 x.l, .int .i64 x.r, .int .i64 x.a, .int .i64 x.b, .int .i64 x.c, .int .i64 x.d] _ (by first | rfl | simp))).alloc _
      · have F := fr_alloc (X := (w.alloc (.cells [(.int .i64 x.k : Value), .int .i64 x.l, .int .i64 x.r, .int .i64 x.a, .int .i64 x.b, .int .i64 x.c, .int .i64 x.d].toArray 27))) (l := [.int .i64 0, .int .i64 0]) (T := 25) (Later.refl _)
        simp only [World.size_alloc] at F
        exact F
      rintro W ⟨hW, hF⟩
      obtain ⟨p0, p1, p2, p3, p4, p5, p6, _⟩ := Held.s7 hW
      have z0 := Held.lt hW (w.heap.size) 0 (.int .i64 x.k) (by simp)
      obtain ⟨r0, r1, r2, r3⟩ := Fr.o2 hF
      have zr := Fr.lt hF
      have HW := Lib.hid (Held.is hW)
      go_wp2_with (go_at_call 67; refine (s_IsSegment x _).mono ?_; rintro e w1 ⟨rfl, hb⟩; obtain ⟨H, hcc, hff, hzz⟩ := later_facts hb; clear hb; (try simp at hzz); have hz0 : w.heap.size < w1.heap.size := (by omega); (try (have hz1 : w.heap.size + 1 < w1.heap.size := (by omega))); (try (have hz2 : w.heap.size + 1 + 1 < w1.heap.size := (by omega))))
      refine bodyPost_ret (v := .tuple #[.agg #[.int .i64 0, .int .i64 0], .int .i64 5]) (by simp [results, Try.results28, go_sem, *]) rfl ⟨rfl, (by repeat (first | (with_reducible exact Later.refl _) | (with_reducible exact Hid.out (by assumption)) | (with_reducible refine Later.alloc ?_ _) | (with_reducible refine Later.setCell ?_ (by simp; omega) _) | (with_reducible refine Later.setCell ?_ (by simp) _) | (with_reducible refine Later.drewN ?_ _) | (with_reducible refine Later.drew ?_) | (with_reducible refine Later.trans ?_ (Hid.out (by assumption)))))⟩
end Go.Proofs.Ytdhoiiejcmnmbaa
namespace Go.Proofs.Ytdhoiiejcmnmbaa
open Go.RowKit
set_option maxHeartbeats 4000000
set_option linter.unusedVariables false
set_option linter.unusedSimpArgs false
theorem dz_begin1 {a : Option Addr} {len cap : Nat} {w w1 : World} {v : List Value} {T1 : TypeId} (hs : Bytes w a len) (src : Src w1 (w.alloc (.cells v.toArray T1)).heap.size a len cap) (bel : Later (w.alloc (.cells v.toArray T1)) w1) : DZ [(w.heap.size, v)] (w.heap.size + 1) a len cap w w1 := by
  have h := DZ.begin (rs := [(w.heap.size, v)]) hs ((Later.refl w).alloc (.cells v.toArray T1)) (by intro r hr; simp at hr; subst hr; exact ⟨Nat.le_refl _, fr_new w v T1⟩) src bel
  rw [World.size_alloc] at h
  exact h
theorem dz_begin2 {a : Option Addr} {len cap : Nat} {w w1 : World} {v u : List Value} {T1 T2 : TypeId} (hs : Bytes w a len) (src : Src w1 ((w.alloc (.cells v.toArray T1)).alloc (.cells u.toArray T2)).heap.size a len cap) (bel : Later ((w.alloc (.cells v.toArray T1)).alloc (.cells u.toArray T2)) w1) : DZ [(w.heap.size + 1, u), (w.heap.size, v)] (w.heap.size + 1 + 1) a len cap w w1 := by
  have F2 := fr_new (w.alloc (.cells v.toArray T1)) u T2
  rw [World.size_alloc] at F2
  have h := DZ.begin (rs := [(w.heap.size + 1, u), (w.heap.size, v)]) hs (((Later.refl w).alloc (.cells v.toArray T1)).alloc (.cells u.toArray T2)) (by
    intro r hr; simp at hr
    rcases hr with rfl | rfl
    · exact ⟨Nat.le_succ _, F2⟩
    · exact ⟨Nat.le_refl _, fr_later (fr_new w v T1) ((Later.refl _).alloc _)⟩) src bel
  rw [World.size_alloc, World.size_alloc] at h
  exact h
/-- a drawn segment, for a law -/
def OneS (w : World) (e : Ending) (w' : World) : Prop := ∃ z : Sg, e = .returned (.agg #[.int .i64 z.k, .int .i64 z.l, .int .i64 z.r, .int .i64 z.a, .int .i64 z.b, .int .i64 z.c, .int .i64 z.d]) ∧ Later w w'
theorem mul_bdW (p l : Int) (h1 : -2000000 ≤ p) (h2 : p ≤ 2000000) (h3 : -500000 ≤ l) (h4 : l ≤ 500000) : -1000000000000 ≤ p * l ∧ p * l ≤ 1000000000000 := by
  have A : ∀ q m : Int, 0 ≤ q → q ≤ 2000000 → 0 ≤ m → m ≤ 500000 → 0 ≤ q * m ∧ q * m ≤ 1000000000000 := fun q m g1 g2 g3 g4 =>
    ⟨Int.mul_nonneg g1 g3, by have := Int.mul_le_mul g2 g4 g3 (by omega : (0 : Int) ≤ 2000000); omega⟩
  rcases Int.le_total 0 p with hp | hp
  · rcases Int.le_total 0 l with hl | hl
    · have := A p l hp h2 hl h4; omega
    · have := A p (-l) hp h2 (by omega) (by omega); rw [Int.mul_neg] at this; omega
  · rcases Int.le_total 0 l with hl | hl
    · have := A (-p) l (by omega) (by omega) hl h4; rw [Int.neg_mul] at this; omega
    · have := A (-p) (-l) (by omega) (by omega) (by omega) (by omega); rw [Int.neg_mul_neg] at this; omega
theorem s_ChangeW (x : Sg) (w : World) (hl : Sh x.l) (hr : Sm x.r) (ha : Sm x.a) (hb : Sm x.b) :
    Calls Try.prog 62 #[.agg #[.int .i64 x.k, .int .i64 x.l, .int .i64 x.r, .int .i64 x.a, .int .i64 x.b, .int .i64 x.c, .int .i64 x.d]] w fun e w' => e = .returned (.agg #[.int .i64 (chL x), .int .i64 (chH x)]) ∧ Later w w' := by
  obtain ⟨l1, l2⟩ := hl; obtain ⟨r1, r2⟩ := hr; obtain ⟨a1, a2⟩ := ha; obtain ⟨b1, b2⟩ := hb
  have ma := mul_bdW (2 * x.a) x.l (by omega) (by omega) l1 l2
  have mb := mul_bdW (2 * x.b) x.l (by omega) (by omega) l1 l2
  obtain ⟨m1, m2⟩ := ma; obtain ⟨m3, m4⟩ := mb
  unfold chL chH
  unfold kL kH at *
  rw [← Go.Proofs.Ytdhoiiejcmnmbaa.k2 x.a x.l, ← Go.Proofs.Ytdhoiiejcmnmbaa.k2 x.b x.l]
  go_enter Try.func62, Try.ntmps62
  go_wp2
  refine bodyPost_ret (v := .agg #[.int .i64 (-19612 * x.r - 2 * x.b * x.l), .int .i64 (-19612 * x.r - 2 * x.a * x.l)]) (by simp [results, Try.results62, go_sem, *]) rfl ⟨rfl, (by repeat (first | (with_reducible exact Later.refl _) | (with_reducible exact Hid.out (by assumption)) | (with_reducible refine Later.alloc ?_ _) | (with_reducible refine Later.setCell ?_ (by simp; omega) _) | (with_reducible refine Later.setCell ?_ (by simp) _) | (with_reducible refine Later.drewN ?_ _) | (with_reducible refine Later.drew ?_) | (with_reducible refine Later.trans ?_ (Hid.out (by assumption)))))⟩
set_option maxRecDepth 100000 in
theorem s_DrawLiftTime (a : Option Addr) (len cap : Nat) (w : World) (hs : Bytes w a len) :
    Calls Try.prog 26 #[.slice a len cap] w (OneS w) := by
  have HS := Lib.hid hs
  clear hs
  go_enter Try.func26, Try.ntmps26
  go_wp2_with fail
  refine (s_From a len cap _ (HS.out.later ((Later.refl _).alloc _))).mono ?_
  rintro e w1 ⟨rfl, src, lt, bel⟩
  have T1 : Hid (DZ [(w.heap.size, [.int .i64 0, .int .i64 0, .int .i64 0, .int .i64 0, .int .i64 0, .int .i64 0, .int .i64 0])] (w.heap.size + 1) a len cap w w1) := Lib.hid (dz_begin1 (v := [.int .i64 0, .int .i64 0, .int .i64 0, .int .i64 0, .int .i64 0, .int .i64 0, .int .i64 0]) (T1 := 27) HS.out src bel)
  rw [World.size_alloc] at lt ⊢
  clear src bel
  go_wp2_with fail
  refine (s_Next (w.heap.size + 1) a len cap 8 _ T1.out.src (by omega) (by omega)).mono ?_
  rintro e w2 ⟨c, rfl, x0, x1, x2, src, gr⟩
  have T2 := Lib.hid (T1.out.call src gr)
  clear src gr x1 x2
  by_cases hc : c = 0
  · subst hc
    go_wp2_with fail
    refine (s_DrawAny (w.heap.size + 1) a len cap _ T2.out.src).mono ?_
    rintro e w3 ⟨sk, sl, sr, sx, sy, sz, st, rfl, hk', hl', hr', ha', hb', hc', hd', src, gr⟩
    have T3 := Lib.hid (T2.out.call src gr)
    clear hk' hl' hr' ha' hb' hc' hd' src gr
    obtain ⟨r0, r1, r2, r3, r4, r5, r6, rf0, rf1, rf2, rf3, rf4, rf5, rf6⟩ := Fr.o7 (T3.out.fr (w.heap.size) [.int .i64 0, .int .i64 0, .int .i64 0, .int .i64 0, .int .i64 0, .int .i64 0, .int .i64 0] (by simp))
    go_wp2_with fail
    refine bodyPost_ret (v := .agg #[.int .i64 sk, .int .i64 sl, .int .i64 sr, .int .i64 sx, .int .i64 sy, .int .i64 sz, .int .i64 st]) (by simp [results, Try.results26, go_sem, *]) rfl ⟨⟨sk, sl, sr, sx, sy, sz, st⟩, rfl, later7 T3.out.is w.heap.size (Nat.le_refl _) _ _ _ _ _ _ _⟩
  · have hcc : (c == 0) = false := by simpa using hc
    go_wp2_with fail
    refine (s_DrawSegment (w.heap.size + 1) a len cap 1 _ T2.out.src (by omega) (by omega)).mono ?_
    rintro e w3 ⟨sk, sl, sr, sx, sy, sz, st, rfl, hk', hl', hr', ha', hb', hc', hd', src, gr⟩
    have T3 := Lib.hid (T2.out.call src gr)
    clear hk' hl' hr' ha' hb' hc' hd' src gr
    obtain ⟨r0, r1, r2, r3, r4, r5, r6, rf0, rf1, rf2, rf3, rf4, rf5, rf6⟩ := Fr.o7 (T3.out.fr (w.heap.size) [.int .i64 0, .int .i64 0, .int .i64 0, .int .i64 0, .int .i64 0, .int .i64 0, .int .i64 0] (by simp))
    go_wp2_with fail
    refine bodyPost_ret (v := .agg #[.int .i64 sk, .int .i64 sl, .int .i64 sr, .int .i64 sx, .int .i64 sy, .int .i64 sz, .int .i64 st]) (by simp [results, Try.results26, go_sem, *]) rfl ⟨⟨sk, sl, sr, sx, sy, sz, st⟩, rfl, later7 T3.out.is w.heap.size (Nat.le_refl _) _ _ _ _ _ _ _⟩
theorem keepZ {g : Nat} {v0 v1 v2 v3 v4 v5 v6 : Value} {B : Nat} {a : Option Addr} {len cap : Nat} {w w' : World} (h : DZ [(g, [v0, v1, v2, v3, v4, v5, v6])] B a len cap w w') :
    w'.cell? ⟨g, 0, none⟩ = some v0 ∧ w'.cell? ⟨g, 1, none⟩ = some v1 ∧ w'.cell? ⟨g, 2, none⟩ = some v2 ∧ w'.cell? ⟨g, 3, none⟩ = some v3 ∧ w'.cell? ⟨g, 4, none⟩ = some v4 ∧ w'.cell? ⟨g, 5, none⟩ = some v5 ∧ w'.cell? ⟨g, 6, none⟩ = some v6 ∧ DZ [(g, [v0, v1, v2, v3, v4, v5, v6])] B a len cap w w' := by
  obtain ⟨c0, c1, c2, c3, c4, c5, c6, _⟩ := Fr.o7 (h.fr g [v0, v1, v2, v3, v4, v5, v6] (by simp))
  exact ⟨c0, c1, c2, c3, c4, c5, c6, h⟩
theorem keepTwo {g k : Nat} {u0 u1 v0 v1 v2 v3 v4 v5 v6 : Value} {B : Nat} {a : Option Addr} {len cap : Nat} {w w' : World} (h : DZ [(k, [u0, u1]), (g, [v0, v1, v2, v3, v4, v5, v6])] B a len cap w w') :
    w'.cell? ⟨k, 0, none⟩ = some u0 ∧ w'.cell? ⟨k, 1, none⟩ = some u1 ∧ w'.cell? ⟨g, 0, none⟩ = some v0 ∧ w'.cell? ⟨g, 1, none⟩ = some v1 ∧ w'.cell? ⟨g, 2, none⟩ = some v2 ∧ w'.cell? ⟨g, 3, none⟩ = some v3 ∧ w'.cell? ⟨g, 4, none⟩ = some v4 ∧ w'.cell? ⟨g, 5, none⟩ = some v5 ∧ w'.cell? ⟨g, 6, none⟩ = some v6 ∧ DZ [(k, [u0, u1]), (g, [v0, v1, v2, v3, v4, v5, v6])] B a len cap w w' := by
  obtain ⟨c0, c1, c2, c3, c4, c5, c6, _⟩ := Fr.o7 (h.fr g [v0, v1, v2, v3, v4, v5, v6] (by simp))
  obtain ⟨d0, d1, _⟩ := Fr.o2 (h.fr k [u0, u1] (by simp))
  exact ⟨d0, d1, c0, c1, c2, c3, c4, c5, c6, h⟩
set_option maxRecDepth 100000 in
theorem s_DrawTurnDistance (a : Option Addr) (len cap : Nat) (w : World) (hs : Bytes w a len) :
    Calls Try.prog 23 #[.slice a len cap] w (OneZ w) := by
  have HS := Lib.hid hs
  clear hs
  go_enter Try.func23, Try.ntmps23
  go_wp2_with fail
  refine (s_From a len cap _ (HS.out.later (((Later.refl _).alloc _).alloc _))).mono ?_
  rintro e w1 ⟨rfl, src, lt, bel⟩
  have T1 : Hid (DZ [(w.heap.size + 1, [.int .i64 0, .int .i64 0]), (w.heap.size, [.int .i64 0, .int .i64 0, .int .i64 0, .int .i64 0, .int .i64 0, .int .i64 0, .int .i64 0])] (w.heap.size + 1 + 1) a len cap w w1) := Lib.hid (dz_begin2 (v := [.int .i64 0, .int .i64 0, .int .i64 0, .int .i64 0, .int .i64 0, .int .i64 0, .int .i64 0]) (u := [.int .i64 0, .int .i64 0]) (T1 := 27) (T2 := 25) HS.out src bel)
  rw [World.size_alloc, World.size_alloc] at lt ⊢
  clear src bel
  have nB0 : w.heap.size ≠ (w.heap.size + 1 + 1) := by omega
  have nB1 : w.heap.size + 1 ≠ (w.heap.size + 1 + 1) := by omega
  go_wp2_with fail
  refine (s_DrawAny (w.heap.size + 1 + 1) a len cap _ T1.out.src).mono ?_
  rintro e w2 ⟨sk, sl, sr, sx, sy, sz, st, rfl, hk', hl', hr', ha', hb', hc', hd', src, gr⟩
  have T2 := Lib.hid ((T1.out.call src gr).box [.int .i64 sk, .int .i64 sl, .int .i64 sr, .int .i64 sx, .int .i64 sy, .int .i64 sz, .int .i64 st] 27 _ rfl)
  have hz2 : w.heap.size + 1 < w2.heap.size := ((T1.out.call src gr).ne (w.heap.size + 1) [.int .i64 0, .int .i64 0] (by simp)).2
  obtain ⟨r1, r2⟩ := hr'
  clear hk' hl' ha' hb' hc' hd' src gr T1
  go_upto_region 3 with fail
  go_cut [20] (fun s W => ∃ bb : Bool, s = .bool bb ∧ DZ [(w2.heap.size, [.int .i64 sk, .int .i64 sl, .int .i64 sr, .int .i64 sx, .int .i64 sy, .int .i64 sz, .int .i64 st]), (w.heap.size + 1, [.int .i64 0, .int .i64 0]), (w.heap.size, [.int .i64 0, .int .i64 0, .int .i64 0, .int .i64 0, .int .i64 0, .int .i64 0, .int .i64 0])] (w.heap.size + 1 + 1) a len cap w W)
  case first =>
    go_wp2_with fail
    refine (s_Next (w.heap.size + 1 + 1) a len cap 4 _ T2.out.src (by omega) (by omega)).mono ?_
    rintro e w3 ⟨c, rfl, y0, y1, y2, src, gr⟩
    have T3 := Lib.hid (T2.out.call src gr)
    clear src gr y1 y2 T2
    obtain ⟨x0, x1, x2, x3, x4, x5, x6, xf0, xf1, xf2, xf3, xf4, xf5, xf6⟩ := Fr.o7 (T3.out.fr (w2.heap.size) [.int .i64 sk, .int .i64 sl, .int .i64 sr, .int .i64 sx, .int .i64 sy, .int .i64 sz, .int .i64 st] (by simp))
    by_cases hc1 : 0 < c
    · by_cases hc2 : sr < 0
      all_goals
        go_wp2_with fail
        go_meet
        exact ⟨_, rfl, T3.out⟩
    · go_wp2_with fail
      go_meet
      exact ⟨_, rfl, T3.out⟩
  case rest =>
    obtain ⟨bb, rfl, h3⟩ := hcut
    have T3 := Lib.hid h3
    clear h3 T2
    go_upto_if 20 with (fail)
    go_cut [] (fun W => ∃ rr : Int, DZ [(w2.heap.size, [.int .i64 sk, .int .i64 sl, .int .i64 rr, .int .i64 sx, .int .i64 sy, .int .i64 sz, .int .i64 st]), (w.heap.size + 1, [.int .i64 0, .int .i64 0]), (w.heap.size, [.int .i64 0, .int .i64 0, .int .i64 0, .int .i64 0, .int .i64 0, .int .i64 0, .int .i64 0])] (w.heap.size + 1 + 1) a len cap w W)
    case first =>
      obtain ⟨x0, x1, x2, x3, x4, x5, x6, xf0, xf1, xf2, xf3, xf4, xf5, xf6⟩ := Fr.o7 (T3.out.fr (w2.heap.size) [.int .i64 sk, .int .i64 sl, .int .i64 sr, .int .i64 sx, .int .i64 sy, .int .i64 sz, .int .i64 st] (by simp))
      cases bb
      · go_wp2_with fail
        go_meet
        exact ⟨_, T3.out⟩
      · have hwn : IntKind.i64.wrap (-sr) = -sr := IntWalk.i64_in _ ⟨by omega, by omega⟩
        go_wp2_with fail
        go_meet
        exact ⟨_, T3.out.set (g := w2.heap.size) (by intro r hr; simp at hr; rcases hr with rfl | rfl <;> simp <;> omega) 2 (.int .i64 (-sr))⟩
    case rest =>
      obtain ⟨rr, h4⟩ := hcut
      have TZ := Lib.hid h4
      clear h4 T3
      go_wp2_with fail
      refine (s_l06Draw (w.heap.size + 1 + 1) a len cap _ TZ.out.src).mono ?_
      rintro e w4 ⟨ex, ey, rfl, px, py, src, gr⟩
      have TX := Lib.hid ((TZ.out.call src gr).box [.int .i64 ex, .int .i64 ey] 25 _ rfl)
      have hz4 : w2.heap.size < w4.heap.size := ((TZ.out.call src gr).ne w2.heap.size [.int .i64 sk, .int .i64 sl, .int .i64 rr, .int .i64 sx, .int .i64 sy, .int .i64 sz, .int .i64 st] (by simp)).2
      clear src gr px py TZ
      obtain ⟨x0, x1, x2, x3, x4, x5, x6, xf0, xf1, xf2, xf3, xf4, xf5, xf6⟩ := Fr.o7 (TX.out.fr (w2.heap.size) [.int .i64 sk, .int .i64 sl, .int .i64 rr, .int .i64 sx, .int .i64 sy, .int .i64 sz, .int .i64 st] (by simp))
      go_wp2_with fail
      refine (s_IsSegment (⟨sk, sl, rr, sx, sy, sz, st⟩ : Sg) _).mono ?_
      cases hsg : sgB (⟨sk, sl, rr, sx, sy, sz, st⟩ : Sg)
      · rintro e w5 ⟨rfl, hb⟩
        have TY := Lib.hid (TX.out.later hb)
        clear hb TX x0 xf0 x1 xf1 x2 xf2 x3 xf3 x4 xf4 x5 xf5 x6 xf6
        go_wp2_with fail
        have hx0 : ∀ r ∈ ([(w4.heap.size, [.int .i64 ex, .int .i64 ey]), (w2.heap.size, [.int .i64 sk, .int .i64 sl, .int .i64 rr, .int .i64 sx, .int .i64 sy, .int .i64 sz, .int .i64 st])] : List (Nat × List Value)), r.1 ≠ w.heap.size := by intro r hr; simp at hr; rcases hr with rfl | rfl <;> simp <;> omega
        have hx1 : ∀ r ∈ ([(w4.heap.size, [.int .i64 ex, .int .i64 ey]), (w2.heap.size, [.int .i64 sk, .int .i64 sl, .int .i64 rr, .int .i64 sx, .int .i64 sy, .int .i64 sz, .int .i64 st])] : List (Nat × List Value)), r.1 ≠ w.heap.size + 1 := by intro r hr; simp at hr; rcases hr with rfl | rfl <;> simp <;> omega
        have n1 : ¬ w2.heap.size = w.heap.size := by omega
        have n2 : ¬ w.heap.size = w2.heap.size := by omega
        have n3 : ¬ w2.heap.size = w.heap.size + 1 := by omega
        have n4 : ¬ w.heap.size + 1 = w2.heap.size := by omega
        have n5 : ¬ w4.heap.size = w.heap.size := by omega
        have n6 : ¬ w.heap.size = w4.heap.size := by omega
        have n7 : ¬ w4.heap.size = w.heap.size + 1 := by omega
        have n8 : ¬ w.heap.size + 1 = w4.heap.size := by omega
        go_upto_region 10 with fail
        refine into (fun W => DZ [(w4.heap.size, [.int .i64 ex, .int .i64 ey]), (w2.heap.size, [.int .i64 sk, .int .i64 sl, .int .i64 rr, .int .i64 sx, .int .i64 sy, .int .i64 sz, .int .i64 st]), (w.heap.size + 1, [.int .i64 0, .int .i64 0]), (w.heap.size, [.int .i64 0, .int .i64 0, .int .i64 0, .int .i64 0, .int .i64 0, .int .i64 0, .int .i64 0])] (w.heap.size + 1 + 1) a len cap w W) (by repeat (first | (with_reducible exact Hid.out (by assumption)) | (with_reducible refine DZ.drew ?_) | (with_reducible refine DZ.drewN ?_ _) | (with_reducible refine DZ.alloc ?_ _))) ?_
        intro W hw9
        have T9 := Lib.hid hw9
        have X9 : Hid (DZ [(w4.heap.size, [.int .i64 ex, .int .i64 ey]), (w2.heap.size, [.int .i64 sk, .int .i64 sl, .int .i64 rr, .int .i64 sx, .int .i64 sy, .int .i64 sz, .int .i64 st])] (w.heap.size + 1 + 1) a len cap w W) := Lib.hid (DZ.sub hw9 (by intro r hr; simp at hr ⊢; rcases hr with rfl | rfl <;> simp))
        obtain ⟨r0, r1, r2, r3, r4, r5, r6, rf0, rf1, rf2, rf3, rf4, rf5, rf6⟩ := Fr.o7 (T9.out.fr (w.heap.size) [.int .i64 0, .int .i64 0, .int .i64 0, .int .i64 0, .int .i64 0, .int .i64 0, .int .i64 0] (by simp))
        obtain ⟨s0, s1, sf0, sf1⟩ := Fr.o2 (T9.out.fr (w.heap.size + 1) [.int .i64 0, .int .i64 0] (by simp))
        clear hw9
        go_region_held3 (fun w' => w'.cell? ⟨w4.heap.size, 0, none⟩ = some (.int .i64 ex) ∧ w'.cell? ⟨w4.heap.size, 1, none⟩ = some (.int .i64 ey) ∧ w'.cell? ⟨w2.heap.size, 0, none⟩ = some (.int .i64 sk) ∧ w'.cell? ⟨w2.heap.size, 1, none⟩ = some (.int .i64 sl) ∧ w'.cell? ⟨w2.heap.size, 2, none⟩ = some (.int .i64 rr) ∧ w'.cell? ⟨w2.heap.size, 3, none⟩ = some (.int .i64 sx) ∧ w'.cell? ⟨w2.heap.size, 4, none⟩ = some (.int .i64 sy) ∧ w'.cell? ⟨w2.heap.size, 5, none⟩ = some (.int .i64 sz) ∧ w'.cell? ⟨w2.heap.size, 6, none⟩ = some (.int .i64 st) ∧ DZ [(w4.heap.size, [.int .i64 ex, .int .i64 ey]), (w2.heap.size, [.int .i64 sk, .int .i64 sl, .int .i64 rr, .int .i64 sx, .int .i64 sy, .int .i64 sz, .int .i64 st])] (w.heap.size + 1 + 1) a len cap w w') ((refine keepTwo ?_; repeat (first | (with_reducible exact Hid.out (by assumption)) | (with_reducible refine DZ.drew ?_) | (with_reducible refine DZ.drewN ?_ _) | (with_reducible refine DZ.alloc ?_ _) | (with_reducible refine DZ.far ?_ _ _ _ (by first | exact Nat.le_refl _ | exact Nat.le_succ _) (by first | exact nB0 | exact nB1) (by first | exact hx0 | exact hx1)))))
          (fail)
        all_goals
          go_wp2_with fail
          refine bodyPost_ret (v := .tuple #[.agg #[.int .i64 sk, .int .i64 sl, .int .i64 rr, .int .i64 sx, .int .i64 sy, .int .i64 sz, .int .i64 st], .agg #[.int .i64 ex, .int .i64 ey]]) (by simp [results, Try.results23, go_sem, *]) rfl ⟨⟨sk, sl, rr, sx, sy, sz, st⟩, ex, ey, rfl, (by ((repeat (first | (with_reducible refine Later.drew ?_) | (with_reducible refine Later.drewN ?_ _))); exact later2 (later7 T9.out.is w.heap.size (Nat.le_refl _) _ _ _ _ _ _ _) (w.heap.size + 1) (Nat.le_succ _) _ _))⟩
      · rintro e w5 ⟨rfl, hb⟩
        have TY := Lib.hid (TX.out.later hb)
        clear hb TX x0 xf0 x1 xf1 x2 xf2 x3 xf3 x4 xf4 x5 xf5 x6 xf6
        go_wp2_with fail
        refine (s_Next (w.heap.size + 1 + 1) a len cap 4 _ TY.out.src (by omega) (by omega)).mono ?_
        rintro e w6 ⟨d, rfl, y0, y1, y2, src, gr⟩
        have TX := Lib.hid (TY.out.call src gr)
        clear src gr y1 y2 TY
        by_cases hd : 0 < d
        · have hd1 : 0 < d := hd
          obtain ⟨d1, d2, d3⟩ := ch_bd (⟨sk, sl, rr, sx, sy, sz, st⟩ : Sg) hsg
          have HC := fun w => s_Change (⟨sk, sl, rr, sx, sy, sz, st⟩ : Sg) w hsg
          have HFL : ∀ W : World, (Instr.field 25 (.agg #[.int .i64 (chL (⟨sk, sl, rr, sx, sy, sz, st⟩ : Sg)), .int .i64 (chH (⟨sk, sl, rr, sx, sy, sz, st⟩ : Sg))]) 1).run Try.prog W = .ok (.int .i64 (chH (⟨sk, sl, rr, sx, sy, sz, st⟩ : Sg))) W := fun W => by kernel_rfl
          generalize chL (⟨sk, sl, rr, sx, sy, sz, st⟩ : Sg) = yL at *
          generalize chH (⟨sk, sl, rr, sx, sy, sz, st⟩ : Sg) = yH at *
          have hwy : IntKind.i64.wrap (-yH) = -yH := IntWalk.i64_in _ ⟨by omega, by omega⟩
          go_upto_region 7 with fail
          go_cut [7] (fun s W => ∃ cc : Int, s = .int .i64 cc ∧ 1 ≤ cc ∧ cc ≤ 9961200000 ∧ DZ [(w2.heap.size, [.int .i64 sk, .int .i64 sl, .int .i64 rr, .int .i64 sx, .int .i64 sy, .int .i64 sz, .int .i64 st]), (w.heap.size + 1, [.int .i64 0, .int .i64 0]), (w.heap.size, [.int .i64 0, .int .i64 0, .int .i64 0, .int .i64 0, .int .i64 0, .int .i64 0, .int .i64 0])] (w.heap.size + 1 + 1) a len cap w W)
          case first =>
            obtain ⟨x0, x1, x2, x3, x4, x5, x6, xf0, xf1, xf2, xf3, xf4, xf5, xf6⟩ := Fr.o7 (TX.out.fr (w2.heap.size) [.int .i64 sk, .int .i64 sl, .int .i64 rr, .int .i64 sx, .int .i64 sy, .int .i64 sz, .int .i64 st] (by simp))
            go_wp2_with fail
            refine (HC _).mono ?_
            rintro e w9 ⟨rfl, hb⟩
            have T9 := Lib.hid (DZ.later TX.out hb)
            clear hb x0 xf0 x1 xf1 x2 xf2 x3 xf3 x4 xf4 x5 xf5 x6 xf6 HC
            go_wp2_with fail
            all_goals
              go_meet
              exact ⟨_, rfl, by first | omega | (split <;> omega), by first | omega | (split <;> omega), DZ.sub T9.out (by intro r hr; simp at hr ⊢; rcases hr with rfl | rfl | rfl <;> simp)⟩
          case rest =>
            obtain ⟨cc, rfl, k1, k2, hw9⟩ := hcut
            have T9 := Lib.hid hw9
            clear hw9 HC HFL d1 d2 d3 hwy TX
            go_upto_region 8 with fail
            go_cut [8] (fun s W => ∃ hi : Int, s = .int .i64 hi ∧ 0 ≤ hi ∧ hi ≤ 9961199999 ∧ DZ [(w2.heap.size, [.int .i64 sk, .int .i64 sl, .int .i64 rr, .int .i64 sx, .int .i64 sy, .int .i64 sz, .int .i64 st]), (w.heap.size + 1, [.int .i64 0, .int .i64 0]), (w.heap.size, [.int .i64 0, .int .i64 0, .int .i64 0, .int .i64 0, .int .i64 0, .int .i64 0, .int .i64 0])] (w.heap.size + 1 + 1) a len cap w W)
            case first =>
              go_wp2_with fail
              refine (s_Next (w.heap.size + 1 + 1) a len cap 3 _ T9.out.src (by omega) (by omega)).mono ?_
              rintro e w10 ⟨u, rfl, u0, u1, u2, src, gr⟩
              have T10 := Lib.hid (T9.out.call src gr)
              have hu := u1 (by omega)
              clear src gr u1 u2
              go_wp2_with fail
              refine (s_Next (w.heap.size + 1 + 1) a len cap cc _ T10.out.src (by omega) (by omega)).mono ?_
              rintro e w11 ⟨v, rfl, v0, v1, v2, src, gr⟩
              have T11 := Lib.hid (T10.out.call src gr)
              have hv : v ≤ 9961200000 := by
                by_cases h1 : 1 < cc
                · have := v1 h1; omega
                · have := v2 (by omega); omega
              obtain ⟨uv, huv⟩ : ∃ uv, uv = u * v := ⟨_, rfl⟩
              have m0 : 0 ≤ uv := by rw [huv]; exact Int.mul_nonneg u0 v0
              have m1 : uv ≤ 19922400000 := by
                rw [huv]
                have := Int.mul_le_mul (show u ≤ 2 by omega) hv v0 (by omega : (0 : Int) ≤ 2)
                omega
              have hw1 : IntKind.i64.wrap (u * v) = uv := by rw [← huv]; exact IntWalk.i64_in _ ⟨by omega, by omega⟩
              have hw2 : IntKind.i64.wrap (cc - 1) = cc - 1 := IntWalk.i64_in _ ⟨by omega, by omega⟩
              have hw3 : IntKind.i64.wrap (cc - 1 - uv) = cc - 1 - uv := IntWalk.i64_in _ ⟨by omega, by omega⟩
              clear src gr v1 v2 huv
              go_wp2_with fail
              all_goals
                go_meet
                exact ⟨_, rfl, by first | omega | (split <;> omega), by first | omega | (split <;> omega), T11.out⟩
            case rest =>
              obtain ⟨hi, rfl, j1, j2, hw10⟩ := hcut
              have T10 := Lib.hid hw10
              clear hw10 T9 k1 k2
              have hx0 : ∀ r ∈ ([(w2.heap.size, [.int .i64 sk, .int .i64 sl, .int .i64 rr, .int .i64 sx, .int .i64 sy, .int .i64 sz, .int .i64 st])] : List (Nat × List Value)), r.1 ≠ w.heap.size := by intro r hr; simp at hr; subst hr; show w2.heap.size ≠ _; omega
              have hx1 : ∀ r ∈ ([(w2.heap.size, [.int .i64 sk, .int .i64 sl, .int .i64 rr, .int .i64 sx, .int .i64 sy, .int .i64 sz, .int .i64 st])] : List (Nat × List Value)), r.1 ≠ w.heap.size + 1 := by intro r hr; simp at hr; subst hr; show w2.heap.size ≠ _; omega
              have n1 : ¬ w2.heap.size = w.heap.size := by omega
              have n2 : ¬ w.heap.size = w2.heap.size := by omega
              have n3 : ¬ w2.heap.size = w.heap.size + 1 := by omega
              have n4 : ¬ w.heap.size + 1 = w2.heap.size := by omega
              go_upto_region 9 with fail
              refine into (fun W => DZ [(w2.heap.size, [.int .i64 sk, .int .i64 sl, .int .i64 rr, .int .i64 sx, .int .i64 sy, .int .i64 sz, .int .i64 st]), (w.heap.size + 1, [.int .i64 0, .int .i64 0]), (w.heap.size, [.int .i64 0, .int .i64 0, .int .i64 0, .int .i64 0, .int .i64 0, .int .i64 0, .int .i64 0])] (w.heap.size + 1 + 1) a len cap w W) (by repeat (first | (with_reducible exact Hid.out (by assumption)) | (with_reducible refine DZ.drew ?_) | (with_reducible refine DZ.drewN ?_ _) | (with_reducible refine DZ.alloc ?_ _))) ?_
              intro W hw9
              have T9 := Lib.hid hw9
              have X9 : Hid (DZ [(w2.heap.size, [.int .i64 sk, .int .i64 sl, .int .i64 rr, .int .i64 sx, .int .i64 sy, .int .i64 sz, .int .i64 st])] (w.heap.size + 1 + 1) a len cap w W) := Lib.hid (DZ.sub hw9 (by intro r hr; simp at hr ⊢; exact .inl hr))
              obtain ⟨r0, r1, r2, r3, r4, r5, r6, rf0, rf1, rf2, rf3, rf4, rf5, rf6⟩ := Fr.o7 (T9.out.fr (w.heap.size) [.int .i64 0, .int .i64 0, .int .i64 0, .int .i64 0, .int .i64 0, .int .i64 0, .int .i64 0] (by simp))
              obtain ⟨s0, s1, sf0, sf1⟩ := Fr.o2 (T9.out.fr (w.heap.size + 1) [.int .i64 0, .int .i64 0] (by simp))
              clear hw9 T10
              obtain ⟨h1, hh1⟩ : ∃ h1, h1 = hi + 1 := ⟨_, rfl⟩
              have hwh : IntKind.i64.wrap (hi + 1) = h1 := by rw [hh1]; exact IntWalk.i64_in _ ⟨by omega, by omega⟩
              have HHI := Lib.hid hh1
              have hh2 : 1 ≤ h1 ∧ h1 ≤ 9961200000 := by omega
              clear hh1
              have hfirst : True := trivial
              go_region_held3 (fun w' => w'.cell? ⟨w2.heap.size, 0, none⟩ = some (.int .i64 sk) ∧ w'.cell? ⟨w2.heap.size, 1, none⟩ = some (.int .i64 sl) ∧ w'.cell? ⟨w2.heap.size, 2, none⟩ = some (.int .i64 rr) ∧ w'.cell? ⟨w2.heap.size, 3, none⟩ = some (.int .i64 sx) ∧ w'.cell? ⟨w2.heap.size, 4, none⟩ = some (.int .i64 sy) ∧ w'.cell? ⟨w2.heap.size, 5, none⟩ = some (.int .i64 sz) ∧ w'.cell? ⟨w2.heap.size, 6, none⟩ = some (.int .i64 st) ∧ DZ [(w2.heap.size, [.int .i64 sk, .int .i64 sl, .int .i64 rr, .int .i64 sx, .int .i64 sy, .int .i64 sz, .int .i64 st])] (w.heap.size + 1 + 1) a len cap w w') ((refine keepZ ?_; repeat (first | (with_reducible exact Hid.out (by assumption)) | (with_reducible refine DZ.drew ?_) | (with_reducible refine DZ.drewN ?_ _) | (with_reducible refine DZ.alloc ?_ _) | (with_reducible refine DZ.far ?_ _ _ _ (by first | exact Nat.le_refl _ | exact Nat.le_succ _) (by first | exact nB0 | exact nB1) (by first | exact hx0 | exact hx1)))))
                (first
                  | (clear hfirst; go_at_call 58; refine (s_Next (w.heap.size + 1 + 1) a len cap _ _ (DZ.src (show DZ [(w2.heap.size, [.int .i64 sk, .int .i64 sl, .int .i64 rr, .int .i64 sx, .int .i64 sy, .int .i64 sz, .int .i64 st])] (w.heap.size + 1 + 1) a len cap w _ from (by repeat (first | (with_reducible exact Hid.out (by assumption)) | (with_reducible refine DZ.drew ?_) | (with_reducible refine DZ.drewN ?_ _) | (with_reducible refine DZ.alloc ?_ _) | (with_reducible refine DZ.far ?_ _ _ _ (by first | exact Nat.le_refl _ | exact Nat.le_succ _) (by first | exact nB0 | exact nB1) (by first | exact hx0 | exact hx1)))))) (by omega) (by omega)).mono ?_; rintro e w8 ⟨va, rfl, va0, va1, va2, src, gr⟩; have X8 : Hid (DZ [(w2.heap.size, [.int .i64 sk, .int .i64 sl, .int .i64 rr, .int .i64 sx, .int .i64 sy, .int .i64 sz, .int .i64 st])] (w.heap.size + 1 + 1) a len cap w w8) := Lib.hid (DZ.call (show DZ [(w2.heap.size, [.int .i64 sk, .int .i64 sl, .int .i64 rr, .int .i64 sx, .int .i64 sy, .int .i64 sz, .int .i64 st])] (w.heap.size + 1 + 1) a len cap w _ from (by repeat (first | (with_reducible exact Hid.out (by assumption)) | (with_reducible refine DZ.drew ?_) | (with_reducible refine DZ.drewN ?_ _) | (with_reducible refine DZ.alloc ?_ _) | (with_reducible refine DZ.far ?_ _ _ _ (by first | exact Nat.le_refl _ | exact Nat.le_succ _) (by first | exact nB0 | exact nB1) (by first | exact hx0 | exact hx1))))) src gr); have T8 : Hid (DZ [(w2.heap.size, [.int .i64 sk, .int .i64 sl, .int .i64 rr, .int .i64 sx, .int .i64 sy, .int .i64 sz, .int .i64 st]), (w.heap.size + 1, [.int .i64 0, .int .i64 0]), (w.heap.size, [.int .i64 0, .int .i64 0, .int .i64 0, .int .i64 0, .int .i64 0, .int .i64 0, .int .i64 0])] (w.heap.size + 1 + 1) a len cap w w8) := Lib.hid (DZ.call (show DZ [(w2.heap.size, [.int .i64 sk, .int .i64 sl, .int .i64 rr, .int .i64 sx, .int .i64 sy, .int .i64 sz, .int .i64 st]), (w.heap.size + 1, [.int .i64 0, .int .i64 0]), (w.heap.size, [.int .i64 0, .int .i64 0, .int .i64 0, .int .i64 0, .int .i64 0, .int .i64 0, .int .i64 0])] (w.heap.size + 1 + 1) a len cap w _ from (by repeat (first | (with_reducible exact Hid.out (by assumption)) | (with_reducible refine DZ.drew ?_) | (with_reducible refine DZ.drewN ?_ _) | (with_reducible refine DZ.alloc ?_ _)))) src gr); obtain ⟨r0, r1, r2, r3, r4, r5, r6, rf0, rf1, rf2, rf3, rf4, rf5, rf6⟩ := Fr.o7 (T8.out.fr (w.heap.size) [.int .i64 0, .int .i64 0, .int .i64 0, .int .i64 0, .int .i64 0, .int .i64 0, .int .i64 0] (by simp)); obtain ⟨s0, s1, sf0, sf1⟩ := Fr.o2 (T8.out.fr (w.heap.size + 1) [.int .i64 0, .int .i64 0] (by simp)); (first | (have hq : va < 20 := va1 (by omega); have hq19 : va.tdiv 19 = va / 19 := Int.tdiv_eq_ediv_of_nonneg va0; have hqb : 0 ≤ va / 19 ∧ va / 19 ≤ 1 := (by omega); have hwv : IntKind.i64.wrap (va / 19) = va / 19 := IntWalk.i64_in _ ⟨by omega, by omega⟩; have hmn : min 10000000000 (hi + va / 19) = hi + va / 19 := (by omega); have hmn2 : ¬ 10000000000 < hi + va / 19 := (by omega); have hwq : IntKind.i64.wrap (hi + va / 19) = hi + va / 19 := IntWalk.i64_in _ ⟨by omega, by omega⟩) | (have hp : va ≤ hi := (by have hh1 := HHI.out; by_cases g1 : 1 < h1; (have := va1 g1; omega); (have := va2 (by omega); omega)); have hwp : IntKind.i64.wrap (hi - va) = hi - va := IntWalk.i64_in _ ⟨by omega, by omega⟩)); clear src gr va1 va2)
                  | (go_at_call 58; refine (s_Next (w.heap.size + 1 + 1) a len cap _ _ (DZ.src (show DZ [(w2.heap.size, [.int .i64 sk, .int .i64 sl, .int .i64 rr, .int .i64 sx, .int .i64 sy, .int .i64 sz, .int .i64 st])] (w.heap.size + 1 + 1) a len cap w _ from (by repeat (first | (with_reducible exact Hid.out (by assumption)) | (with_reducible refine DZ.drew ?_) | (with_reducible refine DZ.drewN ?_ _) | (with_reducible refine DZ.alloc ?_ _) | (with_reducible refine DZ.far ?_ _ _ _ (by first | exact Nat.le_refl _ | exact Nat.le_succ _) (by first | exact nB0 | exact nB1) (by first | exact hx0 | exact hx1)))))) (by omega) (by omega)).mono ?_; rintro e w8 ⟨vb, rfl, vb0, vb1, vb2, src, gr⟩; have X8 : Hid (DZ [(w2.heap.size, [.int .i64 sk, .int .i64 sl, .int .i64 rr, .int .i64 sx, .int .i64 sy, .int .i64 sz, .int .i64 st])] (w.heap.size + 1 + 1) a len cap w w8) := Lib.hid (DZ.call (show DZ [(w2.heap.size, [.int .i64 sk, .int .i64 sl, .int .i64 rr, .int .i64 sx, .int .i64 sy, .int .i64 sz, .int .i64 st])] (w.heap.size + 1 + 1) a len cap w _ from (by repeat (first | (with_reducible exact Hid.out (by assumption)) | (with_reducible refine DZ.drew ?_) | (with_reducible refine DZ.drewN ?_ _) | (with_reducible refine DZ.alloc ?_ _) | (with_reducible refine DZ.far ?_ _ _ _ (by first | exact Nat.le_refl _ | exact Nat.le_succ _) (by first | exact nB0 | exact nB1) (by first | exact hx0 | exact hx1))))) src gr); have T8 : Hid (DZ [(w2.heap.size, [.int .i64 sk, .int .i64 sl, .int .i64 rr, .int .i64 sx, .int .i64 sy, .int .i64 sz, .int .i64 st]), (w.heap.size + 1, [.int .i64 0, .int .i64 0]), (w.heap.size, [.int .i64 0, .int .i64 0, .int .i64 0, .int .i64 0, .int .i64 0, .int .i64 0, .int .i64 0])] (w.heap.size + 1 + 1) a len cap w w8) := Lib.hid (DZ.call (show DZ [(w2.heap.size, [.int .i64 sk, .int .i64 sl, .int .i64 rr, .int .i64 sx, .int .i64 sy, .int .i64 sz, .int .i64 st]), (w.heap.size + 1, [.int .i64 0, .int .i64 0]), (w.heap.size, [.int .i64 0, .int .i64 0, .int .i64 0, .int .i64 0, .int .i64 0, .int .i64 0, .int .i64 0])] (w.heap.size + 1 + 1) a len cap w _ from (by repeat (first | (with_reducible exact Hid.out (by assumption)) | (with_reducible refine DZ.drew ?_) | (with_reducible refine DZ.drewN ?_ _) | (with_reducible refine DZ.alloc ?_ _)))) src gr); obtain ⟨r0, r1, r2, r3, r4, r5, r6, rf0, rf1, rf2, rf3, rf4, rf5, rf6⟩ := Fr.o7 (T8.out.fr (w.heap.size) [.int .i64 0, .int .i64 0, .int .i64 0, .int .i64 0, .int .i64 0, .int .i64 0, .int .i64 0] (by simp)); obtain ⟨s0, s1, sf0, sf1⟩ := Fr.o2 (T8.out.fr (w.heap.size + 1) [.int .i64 0, .int .i64 0] (by simp)); (first | (have hq : vb < 20 := vb1 (by omega); have hq19 : vb.tdiv 19 = vb / 19 := Int.tdiv_eq_ediv_of_nonneg vb0; have hqb : 0 ≤ vb / 19 ∧ vb / 19 ≤ 1 := (by omega); have hwv : IntKind.i64.wrap (vb / 19) = vb / 19 := IntWalk.i64_in _ ⟨by omega, by omega⟩; have hmn : min 10000000000 (hi + vb / 19) = hi + vb / 19 := (by omega); have hmn2 : ¬ 10000000000 < hi + vb / 19 := (by omega); have hwq : IntKind.i64.wrap (hi + vb / 19) = hi + vb / 19 := IntWalk.i64_in _ ⟨by omega, by omega⟩) | (have hp : vb ≤ hi := (by have hh1 := HHI.out; by_cases g1 : 1 < h1; (have := vb1 g1; omega); (have := vb2 (by omega); omega)); have hwp : IntKind.i64.wrap (hi - vb) = hi - vb := IntWalk.i64_in _ ⟨by omega, by omega⟩)); clear src gr vb1 vb2))
              all_goals
                go_wp2_with fail
                first
                  | (refine bodyPost_ret (v := .tuple #[.agg #[.int .i64 sk, .int .i64 sl, .int .i64 rr, .int .i64 sx, .int .i64 sy, .int .i64 sz, .int .i64 st], .agg #[.int .i64 (hi - va), .int .i64 (hi + vb / 19)]]) (by simp [results, Try.results23, go_sem, *]) rfl ⟨⟨sk, sl, rr, sx, sy, sz, st⟩, hi - va, hi + vb / 19, rfl, (by ((repeat (first | (with_reducible refine Later.drew ?_) | (with_reducible refine Later.drewN ?_ _))); exact later2 (later7 T8.out.is w.heap.size (Nat.le_refl _) _ _ _ _ _ _ _) (w.heap.size + 1) (Nat.le_succ _) _ _))⟩)
                  | (refine bodyPost_ret (v := .tuple #[.agg #[.int .i64 sk, .int .i64 sl, .int .i64 rr, .int .i64 sx, .int .i64 sy, .int .i64 sz, .int .i64 st], .agg #[.int .i64 (hi - vb), .int .i64 (hi + va / 19)]]) (by simp [results, Try.results23, go_sem, *]) rfl ⟨⟨sk, sl, rr, sx, sy, sz, st⟩, hi - vb, hi + va / 19, rfl, (by ((repeat (first | (with_reducible refine Later.drew ?_) | (with_reducible refine Later.drewN ?_ _))); exact later2 (later7 T8.out.is w.heap.size (Nat.le_refl _) _ _ _ _ _ _ _) (w.heap.size + 1) (Nat.le_succ _) _ _))⟩)
        · have hd0 : ¬ 0 < d := hd
          go_wp2_with fail
          have hx0 : ∀ r ∈ ([(w4.heap.size, [.int .i64 ex, .int .i64 ey]), (w2.heap.size, [.int .i64 sk, .int .i64 sl, .int .i64 rr, .int .i64 sx, .int .i64 sy, .int .i64 sz, .int .i64 st])] : List (Nat × List Value)), r.1 ≠ w.heap.size := by intro r hr; simp at hr; rcases hr with rfl | rfl <;> simp <;> omega
          have hx1 : ∀ r ∈ ([(w4.heap.size, [.int .i64 ex, .int .i64 ey]), (w2.heap.size, [.int .i64 sk, .int .i64 sl, .int .i64 rr, .int .i64 sx, .int .i64 sy, .int .i64 sz, .int .i64 st])] : List (Nat × List Value)), r.1 ≠ w.heap.size + 1 := by intro r hr; simp at hr; rcases hr with rfl | rfl <;> simp <;> omega
          have n1 : ¬ w2.heap.size = w.heap.size := by omega
          have n2 : ¬ w.heap.size = w2.heap.size := by omega
          have n3 : ¬ w2.heap.size = w.heap.size + 1 := by omega
          have n4 : ¬ w.heap.size + 1 = w2.heap.size := by omega
          have n5 : ¬ w4.heap.size = w.heap.size := by omega
          have n6 : ¬ w.heap.size = w4.heap.size := by omega
          have n7 : ¬ w4.heap.size = w.heap.size + 1 := by omega
          have n8 : ¬ w.heap.size + 1 = w4.heap.size := by omega
          go_upto_region 10 with fail
          refine into (fun W => DZ [(w4.heap.size, [.int .i64 ex, .int .i64 ey]), (w2.heap.size, [.int .i64 sk, .int .i64 sl, .int .i64 rr, .int .i64 sx, .int .i64 sy, .int .i64 sz, .int .i64 st]), (w.heap.size + 1, [.int .i64 0, .int .i64 0]), (w.heap.size, [.int .i64 0, .int .i64 0, .int .i64 0, .int .i64 0, .int .i64 0, .int .i64 0, .int .i64 0])] (w.heap.size + 1 + 1) a len cap w W) (by repeat (first | (with_reducible exact Hid.out (by assumption)) | (with_reducible refine DZ.drew ?_) | (with_reducible refine DZ.drewN ?_ _) | (with_reducible refine DZ.alloc ?_ _))) ?_
          intro W hw9
          have T9 := Lib.hid hw9
          have X9 : Hid (DZ [(w4.heap.size, [.int .i64 ex, .int .i64 ey]), (w2.heap.size, [.int .i64 sk, .int .i64 sl, .int .i64 rr, .int .i64 sx, .int .i64 sy, .int .i64 sz, .int .i64 st])] (w.heap.size + 1 + 1) a len cap w W) := Lib.hid (DZ.sub hw9 (by intro r hr; simp at hr ⊢; rcases hr with rfl | rfl <;> simp))
          obtain ⟨r0, r1, r2, r3, r4, r5, r6, rf0, rf1, rf2, rf3, rf4, rf5, rf6⟩ := Fr.o7 (T9.out.fr (w.heap.size) [.int .i64 0, .int .i64 0, .int .i64 0, .int .i64 0, .int .i64 0, .int .i64 0, .int .i64 0] (by simp))
          obtain ⟨s0, s1, sf0, sf1⟩ := Fr.o2 (T9.out.fr (w.heap.size + 1) [.int .i64 0, .int .i64 0] (by simp))
          clear hw9
          go_region_held3 (fun w' => w'.cell? ⟨w4.heap.size, 0, none⟩ = some (.int .i64 ex) ∧ w'.cell? ⟨w4.heap.size, 1, none⟩ = some (.int .i64 ey) ∧ w'.cell? ⟨w2.heap.size, 0, none⟩ = some (.int .i64 sk) ∧ w'.cell? ⟨w2.heap.size, 1, none⟩ = some (.int .i64 sl) ∧ w'.cell? ⟨w2.heap.size, 2, none⟩ = some (.int .i64 rr) ∧ w'.cell? ⟨w2.heap.size, 3, none⟩ = some (.int .i64 sx) ∧ w'.cell? ⟨w2.heap.size, 4, none⟩ = some (.int .i64 sy) ∧ w'.cell? ⟨w2.heap.size, 5, none⟩ = some (.int .i64 sz) ∧ w'.cell? ⟨w2.heap.size, 6, none⟩ = some (.int .i64 st) ∧ DZ [(w4.heap.size, [.int .i64 ex, .int .i64 ey]), (w2.heap.size, [.int .i64 sk, .int .i64 sl, .int .i64 rr, .int .i64 sx, .int .i64 sy, .int .i64 sz, .int .i64 st])] (w.heap.size + 1 + 1) a len cap w w') ((refine keepTwo ?_; repeat (first | (with_reducible exact Hid.out (by assumption)) | (with_reducible refine DZ.drew ?_) | (with_reducible refine DZ.drewN ?_ _) | (with_reducible refine DZ.alloc ?_ _) | (with_reducible refine DZ.far ?_ _ _ _ (by first | exact Nat.le_refl _ | exact Nat.le_succ _) (by first | exact nB0 | exact nB1) (by first | exact hx0 | exact hx1)))))
            (fail)
          all_goals
            go_wp2_with fail
            refine bodyPost_ret (v := .tuple #[.agg #[.int .i64 sk, .int .i64 sl, .int .i64 rr, .int .i64 sx, .int .i64 sy, .int .i64 sz, .int .i64 st], .agg #[.int .i64 ex, .int .i64 ey]]) (by simp [results, Try.results23, go_sem, *]) rfl ⟨⟨sk, sl, rr, sx, sy, sz, st⟩, ex, ey, rfl, (by ((repeat (first | (with_reducible refine Later.drew ?_) | (with_reducible refine Later.drewN ?_ _))); exact later2 (later7 T9.out.is w.heap.size (Nat.le_refl _) _ _ _ _ _ _ _) (w.heap.size + 1) (Nat.le_succ _) _ _))⟩
end Go.Proofs.Ytdhoiiejcmnmbaa
namespace Go.Proofs.Ytdhoiiejcmnmbaa
open Go.RowKit
set_option maxHeartbeats 4000000
set_option linter.unusedVariables false
set_option linter.unusedSimpArgs false
theorem sl_latG {w w' : World} {a : Option Addr} {n : Nat} {l : List Int} (h : Sl w a n l) (hb : Later w w') : Sl w' a n l := sl_later h hb
theorem mul_bdG (p k : Int) (h1 : -1000000 ≤ p) (h2 : p ≤ 1000000) (h3 : 0 ≤ k) (h4 : k ≤ 6000) : -6000000000 ≤ p * k ∧ p * k ≤ 6000000000 := by
  rcases Int.le_total 0 p with hp | hp
  · have a := Int.mul_nonneg hp h3
    have b := Int.mul_le_mul h2 h4 h3 (by omega : (0 : Int) ≤ 1000000)
    omega
  · have a := Int.mul_nonneg (show 0 ≤ -p by omega) h3
    have b := Int.mul_le_mul (show -p ≤ 1000000 by omega) h4 h3 (by omega : (0 : Int) ≤ 1000000)
    rw [Int.neg_mul] at a b
    omega
/-- a drawn segment, an energy and a number, for a law -/
def OneZT (w : World) (e : Ending) (w' : World) : Prop := ∃ (z : Sg) (x y t : Int), e = .returned (.tuple #[.agg #[.int .i64 z.k, .int .i64 z.l, .int .i64 z.r, .int .i64 z.a, .int .i64 z.b, .int .i64 z.c, .int .i64 z.d], .agg #[.int .i64 x, .int .i64 y], .int .i64 t]) ∧ Later w w'
set_option maxRecDepth 100000 in
theorem s_DrawLaunchForce (a : Option Addr) (len cap : Nat) (w : World) (hs : Bytes w a len) :
    Calls Try.prog 19 #[.slice a len cap] w (OneZT w) := by
  have HS := Lib.hid hs
  clear hs
  go_enter Try.func19, Try.ntmps19
  go_wp2_with fail
  refine (s_From a len cap _ (HS.out.later (((Later.refl _).alloc _).alloc _))).mono ?_
  rintro e w1 ⟨rfl, src, lt, bel⟩
  have T1 : Hid (DZ [(w.heap.size + 1, [.int .i64 0, .int .i64 0]), (w.heap.size, [.int .i64 0, .int .i64 0, .int .i64 0, .int .i64 0, .int .i64 0, .int .i64 0, .int .i64 0])] (w.heap.size + 1 + 1) a len cap w w1) := Lib.hid (dz_begin2 (v := [.int .i64 0, .int .i64 0, .int .i64 0, .int .i64 0, .int .i64 0, .int .i64 0, .int .i64 0]) (u := [.int .i64 0, .int .i64 0]) (T1 := 27) (T2 := 25) HS.out src bel)
  rw [World.size_alloc, World.size_alloc] at lt ⊢
  clear src bel
  have nB0 : w.heap.size ≠ (w.heap.size + 1 + 1) := by omega
  have nB1 : w.heap.size + 1 ≠ (w.heap.size + 1 + 1) := by omega
  go_wp2_with fail
  refine (s_DrawSegment (w.heap.size + 1 + 1) a len cap 2 _ T1.out.src (by omega) (by omega)).mono ?_
  rintro e w2 ⟨sk, sl, sr, sx, sy, sz, st, rfl, hk', hl', hr', ha', hb', hc', hd', src, gr⟩
  have T2 := Lib.hid ((T1.out.call src gr).box [.int .i64 sk, .int .i64 sl, .int .i64 sr, .int .i64 sx, .int .i64 sy, .int .i64 sz, .int .i64 st] 27 _ rfl)
  have hz2 : w.heap.size + 1 < w2.heap.size := ((T1.out.call src gr).ne (w.heap.size + 1) [.int .i64 0, .int .i64 0] (by simp)).2
  have hB2 : w.heap.size + 1 + 1 < w2.heap.size := src.lt
  have HSM : Hid (Sh sl ∧ Sm sr ∧ Sm sx ∧ Sm sy) := Lib.hid ⟨hl', hr', ha', hb'⟩
  clear hk' hl' hr' ha' hb' hc' hd' src gr T1
  go_upto_region 3 with fail
  go_cut [14] (fun s W => ∃ bb : Bool, s = .bool bb ∧ DZ [(w2.heap.size, [.int .i64 sk, .int .i64 sl, .int .i64 sr, .int .i64 sx, .int .i64 sy, .int .i64 sz, .int .i64 st]), (w.heap.size + 1, [.int .i64 0, .int .i64 0]), (w.heap.size, [.int .i64 0, .int .i64 0, .int .i64 0, .int .i64 0, .int .i64 0, .int .i64 0, .int .i64 0])] (w.heap.size + 1 + 1) a len cap w W)
  case first =>
    go_wp2_with fail
    refine (s_Next (w.heap.size + 1 + 1) a len cap 12 _ T2.out.src (by omega) (by omega)).mono ?_
    rintro e w3 ⟨c, rfl, y0, y1, y2, src, gr⟩
    have T3 := Lib.hid (T2.out.call src gr)
    clear src gr y1 y2 T2
    by_cases hc1 : c = 0
    · subst hc1
      go_wp2_with fail
      go_meet
      exact ⟨_, rfl, T3.out⟩
    · have hcc : (c == 0) = false := by simpa using hc1
      go_wp2_with fail
      go_meet
      exact ⟨_, rfl, T3.out⟩
  case rest =>
    obtain ⟨bb, rfl, h3⟩ := hcut
    have T3 := Lib.hid h3
    clear h3 T2
    go_upto_if 14 with (fail)
    go_cut [] (fun W => ∃ rk rl rr ra rb rc rd : Int, (Sh rl ∧ Sm rr ∧ Sm ra ∧ Sm rb) ∧ DZ [(w2.heap.size, [.int .i64 rk, .int .i64 rl, .int .i64 rr, .int .i64 ra, .int .i64 rb, .int .i64 rc, .int .i64 rd]), (w.heap.size + 1, [.int .i64 0, .int .i64 0]), (w.heap.size, [.int .i64 0, .int .i64 0, .int .i64 0, .int .i64 0, .int .i64 0, .int .i64 0, .int .i64 0])] (w.heap.size + 1 + 1) a len cap w W)
    case first =>
      cases bb
      · go_wp2_with fail
        go_meet
        exact ⟨_, _, _, _, _, _, _, HSM.out, T3.out⟩
      · go_wp2_with fail
        refine (s_DrawAny (w.heap.size + 1 + 1) a len cap _ T3.out.src).mono ?_
        rintro e w4 ⟨uk, ul, ur, ux, uy, uz, ut, rfl, hk', hl', hr', ha', hb', hc', hd', src, gr⟩
        have T4 := Lib.hid (T3.out.call src gr)
        obtain ⟨x0, x1, x2, x3, x4, x5, x6, xf0, xf1, xf2, xf3, xf4, xf5, xf6⟩ := Fr.o7 (T4.out.fr (w2.heap.size) [.int .i64 sk, .int .i64 sl, .int .i64 sr, .int .i64 sx, .int .i64 sy, .int .i64 sz, .int .i64 st] (by simp))
        clear src gr
        go_wp2_with fail
        go_meet
        exact ⟨_, _, _, _, _, _, _, ⟨hl', hr', ha', hb'⟩, (T4.out.set7 (by intro r hr; simp at hr; rcases hr with rfl | rfl <;> simp <;> omega) _ _ _ _ _ _ _)⟩
    case rest =>
      obtain ⟨rk, rl, rr, ra, rb, rc, rd, ⟨hl', hr', ha', hb'⟩, h4⟩ := hcut
      have T4 := Lib.hid h4
      clear h4 T3 HSM
      go_wp2_with fail
      refine (s_l06Draw (w.heap.size + 1 + 1) a len cap _ T4.out.src).mono ?_
      rintro e w5 ⟨ex, ey, rfl, px, py, src, gr⟩
      have hz5 : w2.heap.size < w5.heap.size := ((T4.out.call src gr).ne w2.heap.size [.int .i64 rk, .int .i64 rl, .int .i64 rr, .int .i64 ra, .int .i64 rb, .int .i64 rc, .int .i64 rd] (by simp)).2
      have T5 := Lib.hid ((T4.out.call src gr).box [.int .i64 ex, .int .i64 ey] 25 _ rfl)
      obtain ⟨p1, p2⟩ := px
      clear src gr py T4
      obtain ⟨g7, hg7⟩ : ∃ g7, w5.heap.size = g7 := ⟨_, rfl⟩
      go_wp2_with fail
      refine (s_Next (w.heap.size + 1 + 1) a len cap 12 _ T5.out.src (by omega) (by omega)).mono ?_
      rintro e w6 ⟨d, rfl, y0, y1, y2, src, gr⟩
      have T6 := Lib.hid (T5.out.call src gr)
      rw [hg7] at T6 hz5
      clear src gr y1 y2 T5
      have hx0 : ∀ r ∈ ([(g7, [.int .i64 ex, .int .i64 ey]), (w2.heap.size, [.int .i64 rk, .int .i64 rl, .int .i64 rr, .int .i64 ra, .int .i64 rb, .int .i64 rc, .int .i64 rd])] : List (Nat × List Value)), r.1 ≠ w.heap.size := by intro r hr; simp at hr; rcases hr with rfl | rfl <;> simp <;> omega
      have hx1 : ∀ r ∈ ([(g7, [.int .i64 ex, .int .i64 ey]), (w2.heap.size, [.int .i64 rk, .int .i64 rl, .int .i64 rr, .int .i64 ra, .int .i64 rb, .int .i64 rc, .int .i64 rd])] : List (Nat × List Value)), r.1 ≠ w.heap.size + 1 := by intro r hr; simp at hr; rcases hr with rfl | rfl <;> simp <;> omega
      have n1 : ¬ w2.heap.size = w.heap.size := by omega
      have n2 : ¬ w.heap.size = w2.heap.size := by omega
      have n3 : ¬ w2.heap.size = w.heap.size + 1 := by omega
      have n4 : ¬ w.heap.size + 1 = w2.heap.size := by omega
      have n5 : ¬ g7 = w.heap.size := by omega
      have n6 : ¬ w.heap.size = g7 := by omega
      have n7 : ¬ g7 = w.heap.size + 1 := by omega
      have n8 : ¬ w.heap.size + 1 = g7 := by omega
      by_cases hd : d = 0
      · subst hd
        go_upto_region 7 with fail
        refine into (fun W => DZ [(g7, [.int .i64 ex, .int .i64 ey]), (w2.heap.size, [.int .i64 rk, .int .i64 rl, .int .i64 rr, .int .i64 ra, .int .i64 rb, .int .i64 rc, .int .i64 rd]), (w.heap.size + 1, [.int .i64 0, .int .i64 0]), (w.heap.size, [.int .i64 0, .int .i64 0, .int .i64 0, .int .i64 0, .int .i64 0, .int .i64 0, .int .i64 0])] (w.heap.size + 1 + 1) a len cap w W) (by repeat (first | (with_reducible exact Hid.out (by assumption)) | (with_reducible refine DZ.drew ?_) | (with_reducible refine DZ.drewN ?_ _) | (with_reducible refine DZ.alloc ?_ _))) ?_
        intro W hw9
        have T8 := Lib.hid hw9
        have X8 : Hid (DZ [(g7, [.int .i64 ex, .int .i64 ey]), (w2.heap.size, [.int .i64 rk, .int .i64 rl, .int .i64 rr, .int .i64 ra, .int .i64 rb, .int .i64 rc, .int .i64 rd])] (w.heap.size + 1 + 1) a len cap w W) := Lib.hid (DZ.sub hw9 (by intro r hr; simp at hr ⊢; rcases hr with rfl | rfl <;> simp))
        obtain ⟨r0, r1, r2, r3, r4, r5, r6, rf0, rf1, rf2, rf3, rf4, rf5, rf6⟩ := Fr.o7 (T8.out.fr (w.heap.size) [.int .i64 0, .int .i64 0, .int .i64 0, .int .i64 0, .int .i64 0, .int .i64 0, .int .i64 0] (by simp))
        obtain ⟨s0, s1, sf0, sf1⟩ := Fr.o2 (T8.out.fr (w.heap.size + 1) [.int .i64 0, .int .i64 0] (by simp))
        clear hw9
        go_region_held3 (fun w' => w'.cell? ⟨g7, 0, none⟩ = some (.int .i64 ex) ∧ w'.cell? ⟨g7, 1, none⟩ = some (.int .i64 ey) ∧ w'.cell? ⟨w2.heap.size, 0, none⟩ = some (.int .i64 rk) ∧ w'.cell? ⟨w2.heap.size, 1, none⟩ = some (.int .i64 rl) ∧ w'.cell? ⟨w2.heap.size, 2, none⟩ = some (.int .i64 rr) ∧ w'.cell? ⟨w2.heap.size, 3, none⟩ = some (.int .i64 ra) ∧ w'.cell? ⟨w2.heap.size, 4, none⟩ = some (.int .i64 rb) ∧ w'.cell? ⟨w2.heap.size, 5, none⟩ = some (.int .i64 rc) ∧ w'.cell? ⟨w2.heap.size, 6, none⟩ = some (.int .i64 rd) ∧ DZ [(g7, [.int .i64 ex, .int .i64 ey]), (w2.heap.size, [.int .i64 rk, .int .i64 rl, .int .i64 rr, .int .i64 ra, .int .i64 rb, .int .i64 rc, .int .i64 rd])] (w.heap.size + 1 + 1) a len cap w w') ((refine keepTwo ?_; repeat (first | (with_reducible exact Hid.out (by assumption)) | (with_reducible refine DZ.drew ?_) | (with_reducible refine DZ.drewN ?_ _) | (with_reducible refine DZ.alloc ?_ _) | (with_reducible refine DZ.far ?_ _ _ _ (by first | exact Nat.le_refl _ | exact Nat.le_succ _) (by first | exact nB0 | exact nB1) (by first | exact hx0 | exact hx1)))))
          (first
            | (go_at_call 61; refine (s_Pick (w.heap.size + 1 + 1) a len cap _ 4 4 [-1, 0, 10000000000, 10000000001] _ (DZ.src (show DZ [(g7, [.int .i64 ex, .int .i64 ey]), (w2.heap.size, [.int .i64 rk, .int .i64 rl, .int .i64 rr, .int .i64 ra, .int .i64 rb, .int .i64 rc, .int .i64 rd])] (w.heap.size + 1 + 1) a len cap w _ from (by repeat (first | (with_reducible exact Hid.out (by assumption)) | (with_reducible refine DZ.drew ?_) | (with_reducible refine DZ.drewN ?_ _) | (with_reducible refine DZ.alloc ?_ _) | (with_reducible refine DZ.far ?_ _ _ _ (by first | exact Nat.le_refl _ | exact Nat.le_succ _) (by first | exact nB0 | exact nB1) (by first | exact hx0 | exact hx1)))))) (by first | exact sl_new _ [-1, 0, 10000000000, 10000000001] 2 (by simp) (by intro x hx; simp at hx; unfold InR; omega) | exact sl_latG (sl_new _ [-1, 0, 10000000000, 10000000001] 2 (by simp) (by intro x hx; simp at hx; unfold InR; omega)) ((Later.refl _).drew) | exact sl_latG (sl_new _ [-1, 0, 10000000000, 10000000001] 2 (by simp) (by intro x hx; simp at hx; unfold InR; omega)) ((Later.refl _).drewN _)) (by have := (T8.out.src).lt; simp; omega) (by omega)).mono ?_; rintro e w8 ⟨q, rfl, hq, src, gr⟩; have X9 : Hid (DZ [(g7, [.int .i64 ex, .int .i64 ey]), (w2.heap.size, [.int .i64 rk, .int .i64 rl, .int .i64 rr, .int .i64 ra, .int .i64 rb, .int .i64 rc, .int .i64 rd])] (w.heap.size + 1 + 1) a len cap w w8) := Lib.hid (DZ.call (show DZ [(g7, [.int .i64 ex, .int .i64 ey]), (w2.heap.size, [.int .i64 rk, .int .i64 rl, .int .i64 rr, .int .i64 ra, .int .i64 rb, .int .i64 rc, .int .i64 rd])] (w.heap.size + 1 + 1) a len cap w _ from (by repeat (first | (with_reducible exact Hid.out (by assumption)) | (with_reducible refine DZ.drew ?_) | (with_reducible refine DZ.drewN ?_ _) | (with_reducible refine DZ.alloc ?_ _) | (with_reducible refine DZ.far ?_ _ _ _ (by first | exact Nat.le_refl _ | exact Nat.le_succ _) (by first | exact nB0 | exact nB1) (by first | exact hx0 | exact hx1))))) src gr); have T9 : Hid (DZ [(g7, [.int .i64 ex, .int .i64 ey]), (w2.heap.size, [.int .i64 rk, .int .i64 rl, .int .i64 rr, .int .i64 ra, .int .i64 rb, .int .i64 rc, .int .i64 rd]), (w.heap.size + 1, [.int .i64 0, .int .i64 0]), (w.heap.size, [.int .i64 0, .int .i64 0, .int .i64 0, .int .i64 0, .int .i64 0, .int .i64 0, .int .i64 0])] (w.heap.size + 1 + 1) a len cap w w8) := Lib.hid (DZ.call (show DZ [(g7, [.int .i64 ex, .int .i64 ey]), (w2.heap.size, [.int .i64 rk, .int .i64 rl, .int .i64 rr, .int .i64 ra, .int .i64 rb, .int .i64 rc, .int .i64 rd]), (w.heap.size + 1, [.int .i64 0, .int .i64 0]), (w.heap.size, [.int .i64 0, .int .i64 0, .int .i64 0, .int .i64 0, .int .i64 0, .int .i64 0, .int .i64 0])] (w.heap.size + 1 + 1) a len cap w _ from (by repeat (first | (with_reducible exact Hid.out (by assumption)) | (with_reducible refine DZ.drew ?_) | (with_reducible refine DZ.drewN ?_ _) | (with_reducible refine DZ.alloc ?_ _)))) src gr); have X8 := X9; have T8 := T9; obtain ⟨r0, r1, r2, r3, r4, r5, r6, rf0, rf1, rf2, rf3, rf4, rf5, rf6⟩ := Fr.o7 (T8.out.fr (w.heap.size) [.int .i64 0, .int .i64 0, .int .i64 0, .int .i64 0, .int .i64 0, .int .i64 0, .int .i64 0] (by simp)); obtain ⟨s0, s1, sf0, sf1⟩ := Fr.o2 (T8.out.fr (w.heap.size + 1) [.int .i64 0, .int .i64 0] (by simp)); clear hq; clear src gr))
        all_goals
          go_wp2_with fail
          refine bodyPost_ret (v := .tuple #[.agg #[.int .i64 rk, .int .i64 rl, .int .i64 rr, .int .i64 ra, .int .i64 rb, .int .i64 rc, .int .i64 rd], .agg #[.int .i64 ex, .int .i64 ey], .int .i64 q]) (by simp [results, Try.results19, go_sem, *]) rfl ⟨⟨rk, rl, rr, ra, rb, rc, rd⟩, ex, ey, q, rfl, (by ((repeat (first | (with_reducible refine Later.drew ?_) | (with_reducible refine Later.drewN ?_ _) | (with_reducible refine Later.alloc ?_ _))); exact later2 (later7 T8.out.is w.heap.size (Nat.le_refl _) _ _ _ _ _ _ _) (w.heap.size + 1) (Nat.le_succ _) _ _))⟩
      · have hdd : (d == 0) = false := by simpa using hd
        clear hd
        obtain ⟨l1, l2⟩ := hl'; obtain ⟨r1, r2⟩ := hr'; obtain ⟨a1, a2⟩ := ha'; obtain ⟨b1, b2⟩ := hb'
        have HC := fun w => s_ChangeW ⟨rk, rl, rr, ra, rb, rc, rd⟩ w ⟨l1, l2⟩ ⟨r1, r2⟩ ⟨a1, a2⟩ ⟨b1, b2⟩
        have hcb : -2000000000000 ≤ chL (⟨rk, rl, rr, ra, rb, rc, rd⟩ : Sg) ∧ chL (⟨rk, rl, rr, ra, rb, rc, rd⟩ : Sg) ≤ 2000000000000 := by
          have mb := mul_bdW (2 * rb) rl (by omega) (by omega) l1 l2
          have e2 : kH (⟨rk, rl, rr, ra, rb, rc, rd⟩ : Sg) = 2 * rb * rl := (Go.Proofs.Ytdhoiiejcmnmbaa.k2 rb rl).symm
          unfold chL
          rw [e2]
          show -2000000000000 ≤ -19612 * rr - 2 * rb * rl ∧ -19612 * rr - 2 * rb * rl ≤ 2000000000000
          omega
        obtain ⟨hcb1, hcb2⟩ := hcb
        have HFL : ∀ W : World, (Instr.field 25 (.agg #[.int .i64 (chL ⟨rk, rl, rr, ra, rb, rc, rd⟩), .int .i64 (chH ⟨rk, rl, rr, ra, rb, rc, rd⟩)]) 0).run Try.prog W = .ok (.int .i64 (chL ⟨rk, rl, rr, ra, rb, rc, rd⟩)) W := fun W => by kernel_rfl
        generalize chL ⟨rk, rl, rr, ra, rb, rc, rd⟩ = yL at *
        generalize chH ⟨rk, rl, rr, ra, rb, rc, rd⟩ = yH at *
        have hwc : IntKind.i64.wrap (ex + yL) = ex + yL := IntWalk.i64_in _ ⟨by omega, by omega⟩
        have hwl : IntKind.i64.wrap (2 * rl) = 2 * rl := IntWalk.i64_in _ ⟨by omega, by omega⟩
        go_upto_region 8 with fail
        refine into (fun W => DZ [(g7, [.int .i64 ex, .int .i64 ey]), (w2.heap.size, [.int .i64 rk, .int .i64 rl, .int .i64 rr, .int .i64 ra, .int .i64 rb, .int .i64 rc, .int .i64 rd]), (w.heap.size + 1, [.int .i64 0, .int .i64 0]), (w.heap.size, [.int .i64 0, .int .i64 0, .int .i64 0, .int .i64 0, .int .i64 0, .int .i64 0, .int .i64 0])] (w.heap.size + 1 + 1) a len cap w W) (by repeat (first | (with_reducible exact Hid.out (by assumption)) | (with_reducible refine DZ.drew ?_) | (with_reducible refine DZ.drewN ?_ _) | (with_reducible refine DZ.alloc ?_ _))) ?_
        intro W hw9
        have T8 := Lib.hid hw9
        have X8 : Hid (DZ [(g7, [.int .i64 ex, .int .i64 ey]), (w2.heap.size, [.int .i64 rk, .int .i64 rl, .int .i64 rr, .int .i64 ra, .int .i64 rb, .int .i64 rc, .int .i64 rd])] (w.heap.size + 1 + 1) a len cap w W) := Lib.hid (DZ.sub hw9 (by intro r hr; simp at hr ⊢; rcases hr with rfl | rfl <;> simp))
        obtain ⟨r0, r1, r2, r3, r4, r5, r6, rf0, rf1, rf2, rf3, rf4, rf5, rf6⟩ := Fr.o7 (T8.out.fr (w.heap.size) [.int .i64 0, .int .i64 0, .int .i64 0, .int .i64 0, .int .i64 0, .int .i64 0, .int .i64 0] (by simp))
        obtain ⟨s0, s1, sf0, sf1⟩ := Fr.o2 (T8.out.fr (w.heap.size + 1) [.int .i64 0, .int .i64 0] (by simp))
        clear hw9
        go_cut [4] (fun s W => ∃ tt : Int, s = .int .i64 tt ∧ DZ [(w.heap.size + 1, [.int .i64 ex, .int .i64 ey]), (w.heap.size, [.int .i64 rk, .int .i64 rl, .int .i64 rr, .int .i64 ra, .int .i64 rb, .int .i64 rc, .int .i64 rd])] (w.heap.size + 1 + 1) a len cap w W)
        case first =>
          rename_i J K' hJ hK
          have hfirst : True := trivial
          go_region_held3 (fun w' => w'.cell? ⟨g7, 0, none⟩ = some (.int .i64 ex) ∧ w'.cell? ⟨g7, 1, none⟩ = some (.int .i64 ey) ∧ w'.cell? ⟨w2.heap.size, 0, none⟩ = some (.int .i64 rk) ∧ w'.cell? ⟨w2.heap.size, 1, none⟩ = some (.int .i64 rl) ∧ w'.cell? ⟨w2.heap.size, 2, none⟩ = some (.int .i64 rr) ∧ w'.cell? ⟨w2.heap.size, 3, none⟩ = some (.int .i64 ra) ∧ w'.cell? ⟨w2.heap.size, 4, none⟩ = some (.int .i64 rb) ∧ w'.cell? ⟨w2.heap.size, 5, none⟩ = some (.int .i64 rc) ∧ w'.cell? ⟨w2.heap.size, 6, none⟩ = some (.int .i64 rd) ∧ DZ [(g7, [.int .i64 ex, .int .i64 ey]), (w2.heap.size, [.int .i64 rk, .int .i64 rl, .int .i64 rr, .int .i64 ra, .int .i64 rb, .int .i64 rc, .int .i64 rd])] (w.heap.size + 1 + 1) a len cap w w') ((refine keepTwo ?_; repeat (first | (with_reducible exact Hid.out (by assumption)) | (with_reducible refine DZ.drew ?_) | (with_reducible refine DZ.drewN ?_ _) | (with_reducible refine DZ.alloc ?_ _) | (with_reducible refine DZ.far ?_ _ _ _ (by first | exact Nat.le_refl _ | exact Nat.le_succ _) (by first | exact nB0 | exact nB1) (by first | exact hx0 | exact hx1)))))
            (first
              | (go_at_call 62; refine (HC _).mono ?_; rintro e w8 ⟨rfl, hb⟩; have X9 : Hid (DZ [(g7, [.int .i64 ex, .int .i64 ey]), (w2.heap.size, [.int .i64 rk, .int .i64 rl, .int .i64 rr, .int .i64 ra, .int .i64 rb, .int .i64 rc, .int .i64 rd])] (w.heap.size + 1 + 1) a len cap w w8) := Lib.hid (DZ.later (show DZ [(g7, [.int .i64 ex, .int .i64 ey]), (w2.heap.size, [.int .i64 rk, .int .i64 rl, .int .i64 rr, .int .i64 ra, .int .i64 rb, .int .i64 rc, .int .i64 rd])] (w.heap.size + 1 + 1) a len cap w _ from (by repeat (first | (with_reducible exact Hid.out (by assumption)) | (with_reducible refine DZ.drew ?_) | (with_reducible refine DZ.drewN ?_ _) | (with_reducible refine DZ.alloc ?_ _) | (with_reducible refine DZ.far ?_ _ _ _ (by first | exact Nat.le_refl _ | exact Nat.le_succ _) (by first | exact nB0 | exact nB1) (by first | exact hx0 | exact hx1))))) hb); have T9 : Hid (DZ [(g7, [.int .i64 ex, .int .i64 ey]), (w2.heap.size, [.int .i64 rk, .int .i64 rl, .int .i64 rr, .int .i64 ra, .int .i64 rb, .int .i64 rc, .int .i64 rd]), (w.heap.size + 1, [.int .i64 0, .int .i64 0]), (w.heap.size, [.int .i64 0, .int .i64 0, .int .i64 0, .int .i64 0, .int .i64 0, .int .i64 0, .int .i64 0])] (w.heap.size + 1 + 1) a len cap w w8) := Lib.hid (DZ.later (show DZ [(g7, [.int .i64 ex, .int .i64 ey]), (w2.heap.size, [.int .i64 rk, .int .i64 rl, .int .i64 rr, .int .i64 ra, .int .i64 rb, .int .i64 rc, .int .i64 rd]), (w.heap.size + 1, [.int .i64 0, .int .i64 0]), (w.heap.size, [.int .i64 0, .int .i64 0, .int .i64 0, .int .i64 0, .int .i64 0, .int .i64 0, .int .i64 0])] (w.heap.size + 1 + 1) a len cap w _ from (by repeat (first | (with_reducible exact Hid.out (by assumption)) | (with_reducible refine DZ.drew ?_) | (with_reducible refine DZ.drewN ?_ _) | (with_reducible refine DZ.alloc ?_ _)))) hb); have X8 := X9; have T8 := T9; obtain ⟨r0, r1, r2, r3, r4, r5, r6, rf0, rf1, rf2, rf3, rf4, rf5, rf6⟩ := Fr.o7 (T8.out.fr (w.heap.size) [.int .i64 0, .int .i64 0, .int .i64 0, .int .i64 0, .int .i64 0, .int .i64 0, .int .i64 0] (by simp)); obtain ⟨s0, s1, sf0, sf1⟩ := Fr.o2 (T8.out.fr (w.heap.size + 1) [.int .i64 0, .int .i64 0] (by simp)); clear hb)
              | (clear hfirst; go_at_call 58; refine (s_Next (w.heap.size + 1 + 1) a len cap _ _ (DZ.src (show DZ [(g7, [.int .i64 ex, .int .i64 ey]), (w2.heap.size, [.int .i64 rk, .int .i64 rl, .int .i64 rr, .int .i64 ra, .int .i64 rb, .int .i64 rc, .int .i64 rd])] (w.heap.size + 1 + 1) a len cap w _ from (by repeat (first | (with_reducible exact Hid.out (by assumption)) | (with_reducible refine DZ.drew ?_) | (with_reducible refine DZ.drewN ?_ _) | (with_reducible refine DZ.alloc ?_ _) | (with_reducible refine DZ.far ?_ _ _ _ (by first | exact Nat.le_refl _ | exact Nat.le_succ _) (by first | exact nB0 | exact nB1) (by first | exact hx0 | exact hx1)))))) (by omega) (by omega)).mono ?_; rintro e w8 ⟨va, rfl, va0, va1, va2, src, gr⟩; have X9 : Hid (DZ [(g7, [.int .i64 ex, .int .i64 ey]), (w2.heap.size, [.int .i64 rk, .int .i64 rl, .int .i64 rr, .int .i64 ra, .int .i64 rb, .int .i64 rc, .int .i64 rd])] (w.heap.size + 1 + 1) a len cap w w8) := Lib.hid (DZ.call (show DZ [(g7, [.int .i64 ex, .int .i64 ey]), (w2.heap.size, [.int .i64 rk, .int .i64 rl, .int .i64 rr, .int .i64 ra, .int .i64 rb, .int .i64 rc, .int .i64 rd])] (w.heap.size + 1 + 1) a len cap w _ from (by repeat (first | (with_reducible exact Hid.out (by assumption)) | (with_reducible refine DZ.drew ?_) | (with_reducible refine DZ.drewN ?_ _) | (with_reducible refine DZ.alloc ?_ _) | (with_reducible refine DZ.far ?_ _ _ _ (by first | exact Nat.le_refl _ | exact Nat.le_succ _) (by first | exact nB0 | exact nB1) (by first | exact hx0 | exact hx1))))) src gr); have T9 : Hid (DZ [(g7, [.int .i64 ex, .int .i64 ey]), (w2.heap.size, [.int .i64 rk, .int .i64 rl, .int .i64 rr, .int .i64 ra, .int .i64 rb, .int .i64 rc, .int .i64 rd]), (w.heap.size + 1, [.int .i64 0, .int .i64 0]), (w.heap.size, [.int .i64 0, .int .i64 0, .int .i64 0, .int .i64 0, .int .i64 0, .int .i64 0, .int .i64 0])] (w.heap.size + 1 + 1) a len cap w w8) := Lib.hid (DZ.call (show DZ [(g7, [.int .i64 ex, .int .i64 ey]), (w2.heap.size, [.int .i64 rk, .int .i64 rl, .int .i64 rr, .int .i64 ra, .int .i64 rb, .int .i64 rc, .int .i64 rd]), (w.heap.size + 1, [.int .i64 0, .int .i64 0]), (w.heap.size, [.int .i64 0, .int .i64 0, .int .i64 0, .int .i64 0, .int .i64 0, .int .i64 0, .int .i64 0])] (w.heap.size + 1 + 1) a len cap w _ from (by repeat (first | (with_reducible exact Hid.out (by assumption)) | (with_reducible refine DZ.drew ?_) | (with_reducible refine DZ.drewN ?_ _) | (with_reducible refine DZ.alloc ?_ _)))) src gr); have X8 := X9; have T8 := T9; obtain ⟨r0, r1, r2, r3, r4, r5, r6, rf0, rf1, rf2, rf3, rf4, rf5, rf6⟩ := Fr.o7 (T8.out.fr (w.heap.size) [.int .i64 0, .int .i64 0, .int .i64 0, .int .i64 0, .int .i64 0, .int .i64 0, .int .i64 0] (by simp)); obtain ⟨s0, s1, sf0, sf1⟩ := Fr.o2 (T8.out.fr (w.heap.size + 1) [.int .i64 0, .int .i64 0] (by simp)); (first | (have hk : va < 3 := va1 (by omega); have hk3 : va ≤ 2 := (by omega)) | (have hk : va < 6000 := va1 (by omega); have hm := mul_bdG (2 * rl) va (by omega) (by omega) va0 (by omega); have hwm : IntKind.i64.wrap (2 * rl * va) = 2 * rl * va := IntWalk.i64_in _ ⟨by omega, by omega⟩)); clear src gr)
              | (go_at_call 58; refine (s_Next (w.heap.size + 1 + 1) a len cap _ _ (DZ.src (show DZ [(g7, [.int .i64 ex, .int .i64 ey]), (w2.heap.size, [.int .i64 rk, .int .i64 rl, .int .i64 rr, .int .i64 ra, .int .i64 rb, .int .i64 rc, .int .i64 rd])] (w.heap.size + 1 + 1) a len cap w _ from (by repeat (first | (with_reducible exact Hid.out (by assumption)) | (with_reducible refine DZ.drew ?_) | (with_reducible refine DZ.drewN ?_ _) | (with_reducible refine DZ.alloc ?_ _) | (with_reducible refine DZ.far ?_ _ _ _ (by first | exact Nat.le_refl _ | exact Nat.le_succ _) (by first | exact nB0 | exact nB1) (by first | exact hx0 | exact hx1)))))) (by omega) (by omega)).mono ?_; rintro e w8 ⟨vb, rfl, vb0, vb1, vb2, src, gr⟩; have X9 : Hid (DZ [(g7, [.int .i64 ex, .int .i64 ey]), (w2.heap.size, [.int .i64 rk, .int .i64 rl, .int .i64 rr, .int .i64 ra, .int .i64 rb, .int .i64 rc, .int .i64 rd])] (w.heap.size + 1 + 1) a len cap w w8) := Lib.hid (DZ.call (show DZ [(g7, [.int .i64 ex, .int .i64 ey]), (w2.heap.size, [.int .i64 rk, .int .i64 rl, .int .i64 rr, .int .i64 ra, .int .i64 rb, .int .i64 rc, .int .i64 rd])] (w.heap.size + 1 + 1) a len cap w _ from (by repeat (first | (with_reducible exact Hid.out (by assumption)) | (with_reducible refine DZ.drew ?_) | (with_reducible refine DZ.drewN ?_ _) | (with_reducible refine DZ.alloc ?_ _) | (with_reducible refine DZ.far ?_ _ _ _ (by first | exact Nat.le_refl _ | exact Nat.le_succ _) (by first | exact nB0 | exact nB1) (by first | exact hx0 | exact hx1))))) src gr); have T9 : Hid (DZ [(g7, [.int .i64 ex, .int .i64 ey]), (w2.heap.size, [.int .i64 rk, .int .i64 rl, .int .i64 rr, .int .i64 ra, .int .i64 rb, .int .i64 rc, .int .i64 rd]), (w.heap.size + 1, [.int .i64 0, .int .i64 0]), (w.heap.size, [.int .i64 0, .int .i64 0, .int .i64 0, .int .i64 0, .int .i64 0, .int .i64 0, .int .i64 0])] (w.heap.size + 1 + 1) a len cap w w8) := Lib.hid (DZ.call (show DZ [(g7, [.int .i64 ex, .int .i64 ey]), (w2.heap.size, [.int .i64 rk, .int .i64 rl, .int .i64 rr, .int .i64 ra, .int .i64 rb, .int .i64 rc, .int .i64 rd]), (w.heap.size + 1, [.int .i64 0, .int .i64 0]), (w.heap.size, [.int .i64 0, .int .i64 0, .int .i64 0, .int .i64 0, .int .i64 0, .int .i64 0, .int .i64 0])] (w.heap.size + 1 + 1) a len cap w _ from (by repeat (first | (with_reducible exact Hid.out (by assumption)) | (with_reducible refine DZ.drew ?_) | (with_reducible refine DZ.drewN ?_ _) | (with_reducible refine DZ.alloc ?_ _)))) src gr); have X8 := X9; have T8 := T9; obtain ⟨r0, r1, r2, r3, r4, r5, r6, rf0, rf1, rf2, rf3, rf4, rf5, rf6⟩ := Fr.o7 (T8.out.fr (w.heap.size) [.int .i64 0, .int .i64 0, .int .i64 0, .int .i64 0, .int .i64 0, .int .i64 0, .int .i64 0] (by simp)); obtain ⟨s0, s1, sf0, sf1⟩ := Fr.o2 (T8.out.fr (w.heap.size + 1) [.int .i64 0, .int .i64 0] (by simp)); (first | (have hk : vb < 3 := vb1 (by omega); have hk3 : vb ≤ 2 := (by omega)) | (have hk : vb < 6000 := vb1 (by omega); have hm := mul_bdG (2 * rl) vb (by omega) (by omega) vb0 (by omega); have hwm : IntKind.i64.wrap (2 * rl * vb) = 2 * rl * vb := IntWalk.i64_in _ ⟨by omega, by omega⟩)); clear src gr))
          all_goals
            refine hK _ _ (Met.intro (hJ _ _ ?_))
            (repeat apply Exists.intro)
            refine And.intro (Exists.intro ?_ (And.intro ?_ ?_)) rfl
            rotate_left
            · rfl
            have S1 := DZ.set7 (DZ.sub (rs' := [(w.heap.size, [.int .i64 0, .int .i64 0, .int .i64 0, .int .i64 0, .int .i64 0, .int .i64 0, .int .i64 0]), (w.heap.size + 1, [.int .i64 0, .int .i64 0])]) T8.out (by intro r hr; simp at hr ⊢; rcases hr with rfl | rfl <;> simp)) (by intro r hr; simp at hr; subst hr; simp) (.int .i64 rk) (.int .i64 rl) (.int .i64 rr) (.int .i64 ra) (.int .i64 rb) (.int .i64 rc) (.int .i64 rd)
            have S2 := (DZ.set (DZ.set (DZ.sub (rs' := [(w.heap.size + 1, [.int .i64 0, .int .i64 0]), (w.heap.size, [.int .i64 rk, .int .i64 rl, .int .i64 rr, .int .i64 ra, .int .i64 rb, .int .i64 rc, .int .i64 rd])]) S1 (by intro r hr; simp at hr ⊢; rcases hr with rfl | rfl <;> simp)) (by intro r hr; simp at hr; subst hr; simp) 0 (.int .i64 ex)) (by intro r hr; simp at hr; subst hr; simp) 1 (.int .i64 ey))
            (repeat (first | (with_reducible refine DZ.drew ?_) | (with_reducible refine DZ.drewN ?_ _)))
            exact S2
        case rest =>
          obtain ⟨tt, rfl, h9⟩ := hcut
          obtain ⟨r0, r1, r2, r3, r4, r5, r6, _⟩ := Fr.o7 (h9.fr w.heap.size [.int .i64 rk, .int .i64 rl, .int .i64 rr, .int .i64 ra, .int .i64 rb, .int .i64 rc, .int .i64 rd] (by simp))
          obtain ⟨s0, s1, _⟩ := Fr.o2 (h9.fr (w.heap.size + 1) [.int .i64 ex, .int .i64 ey] (by simp))
          have L9 := Lib.hid h9.is
          clear h9
          go_wp2_with fail
          refine bodyPost_ret (v := .tuple #[.agg #[.int .i64 rk, .int .i64 rl, .int .i64 rr, .int .i64 ra, .int .i64 rb, .int .i64 rc, .int .i64 rd], .agg #[.int .i64 ex, .int .i64 ey], .int .i64 tt]) (by simp [results, Try.results19, go_sem, *]) rfl ⟨⟨rk, rl, rr, ra, rb, rc, rd⟩, ex, ey, tt, rfl, L9.out⟩
end Go.Proofs.Ytdhoiiejcmnmbaa
namespace Go.Proofs.Ytdhoiiejcmnmbaa
open Go.RowKit
set_option maxHeartbeats 4000000
set_option linter.unusedVariables false
set_option linter.unusedSimpArgs false
theorem i_ChangeOf' (x : Sg) (w : World) :
    Calls Try.prog 22 #[.agg #[.int .i64 x.k, .int .i64 x.l, .int .i64 x.r, .int .i64 x.a, .int .i64 x.b, .int .i64 x.c, .int .i64 x.d]] w fun e w' => e = .returned (.tuple #[.agg #[.int .i64 (if sgB x = true then chL x else 0), .int .i64 (if sgB x = true then chH x else 0)], .int .i64 (inE (sgB x))]) ∧ Later w w' := by
  cases h : sgB x
  · go_enter Try.func22, Try.ntmps22
    go_wp2_with (go_at_call 63; refine (i_IsSegment x _).mono ?_; rintro e w1 ⟨rfl, hb⟩; obtain ⟨H, hcc, hff, hzz⟩ := later_facts hb; clear hb; (try simp at hzz); (try simp only [World.heap_drewN, World.cell?_drewN, World.frozen?_drewN] at hcc hff); have hz0 : w.heap.size < w1.heap.size := (by omega); (try (have hz1 : w.heap.size + 1 < w1.heap.size := (by omega))); (try (have hz2 : w.heap.size + 1 + 1 < w1.heap.size := (by omega))); (try (have hz3 : w.heap.size + 1 + 1 + 1 < w1.heap.size := (by omega))); (try (have hz4 : w.heap.size + 1 + 1 + 1 + 1 < w1.heap.size := (by omega))))
    refine bodyPost_ret (v := .tuple #[.agg #[.int .i64 0, .int .i64 0], .int .i64 1]) (by simp [results, Try.results22, go_sem, *]) rfl ⟨rfl, (by repeat (first | (with_reducible exact Later.refl _) | (with_reducible exact Hid.out (by assumption)) | (with_reducible refine Later.alloc ?_ _) | (with_reducible refine Later.setCell ?_ (by simp; omega) _) | (with_reducible refine Later.setCell ?_ (by simp) _) | (with_reducible refine Later.drewN ?_ _) | (with_reducible refine Later.drew ?_) | (with_reducible refine Later.trans ?_ (Hid.out (by assumption)))))⟩
  · go_enter Try.func22, Try.ntmps22
    go_wp2_with (first | (go_at_call 63; refine (i_IsSegment x _).mono ?_; rintro e w1 ⟨rfl, hb⟩; obtain ⟨H, hcc, hff, hzz⟩ := later_facts hb; clear hb; (try simp at hzz); (try simp only [World.heap_drewN, World.cell?_drewN, World.frozen?_drewN] at hcc hff); have hz0 : w.heap.size < w1.heap.size := (by omega); (try (have hz1 : w.heap.size + 1 < w1.heap.size := (by omega))); (try (have hz2 : w.heap.size + 1 + 1 < w1.heap.size := (by omega))); (try (have hz3 : w.heap.size + 1 + 1 + 1 < w1.heap.size := (by omega))); (try (have hz4 : w.heap.size + 1 + 1 + 1 + 1 < w1.heap.size := (by omega)))) | (go_at_call 71; refine (i_coastingChange x _ h).mono ?_; rintro e w1 ⟨rfl, hb⟩; obtain ⟨H, hcc, hff, hzz⟩ := later_facts hb; clear hb; (try simp at hzz); (try simp only [World.heap_drewN, World.cell?_drewN, World.frozen?_drewN] at hcc hff); have hz0 : w.heap.size < w1.heap.size := (by omega); (try (have hz1 : w.heap.size + 1 < w1.heap.size := (by omega))); (try (have hz2 : w.heap.size + 1 + 1 < w1.heap.size := (by omega))); (try (have hz3 : w.heap.size + 1 + 1 + 1 < w1.heap.size := (by omega))); (try (have hz4 : w.heap.size + 1 + 1 + 1 + 1 < w1.heap.size := (by omega)))))
    refine bodyPost_ret (v := .tuple #[.agg #[.int .i64 (chL x), .int .i64 (chH x)], .int .i64 0]) (by simp [results, Try.results22, go_sem, *]) rfl ⟨rfl, (by repeat (first | (with_reducible exact Later.refl _) | (with_reducible exact Hid.out (by assumption)) | (with_reducible refine Later.alloc ?_ _) | (with_reducible refine Later.setCell ?_ (by simp; omega) _) | (with_reducible refine Later.setCell ?_ (by simp) _) | (with_reducible refine Later.drewN ?_ _) | (with_reducible refine Later.drew ?_) | (with_reducible refine Later.trans ?_ (Hid.out (by assumption)))))⟩
theorem i_ChangeOf (x : Sg) (w : World) :
    Calls Try.prog 22 #[.agg #[.int .i64 x.k, .int .i64 x.l, .int .i64 x.r, .int .i64 x.a, .int .i64 x.b, .int .i64 x.c, .int .i64 x.d]] w fun e w' => e = .returned (.tuple #[.agg #[.int .i64 (coL x), .int .i64 (coH x)], .int .i64 (inE (sgB x))]) ∧ Later w w' := i_ChangeOf' x w
end Go.Proofs.Ytdhoiiejcmnmbaa
namespace Go.Proofs.Ytdhoiiejcmnmbaa
open Go.RowKit
set_option maxHeartbeats 2000000
set_option linter.unusedVariables false
set_option linter.unusedSimpArgs false
/-- a slice of integers that came in, as the shell of a proof says it -/
def IsRow (k : IntKind) (w : World) (a : Option Addr) (len cap : Nat) (zs : List Int) : Prop :=
  (a = none ∧ len = 0 ∧ cap = 0 ∧ zs = []) ∨
  ∃ x, a = some x ∧ len ≤ cap ∧ cap ≤ maxLen ∧ zs.length = cap ∧ (∀ i, i < zs.length → w.cell? (x.add i) = some (.int k (zs.getD i 0))) ∧ ∀ n ∈ zs, (Lit.int k n).wf = true
theorem isRow_sl {w : World} {a : Option Addr} {len cap : Nat} {zs : List Int} (h : IsRow .i64 w a len cap zs) : Sl w a len (zs.take len) := by
  rcases h with ⟨rfl, rfl, rfl, rfl⟩ | ⟨x, rfl, hl, hm, hz, hc, hw⟩
  · exact ⟨rfl, by omega, fun k hk => absurd hk (by omega), fun x hx => by simp at hx⟩
  · unfold maxLen at hm
    refine ⟨by rw [List.length_take]; omega, by omega, fun k hk => ?_, fun y hy => ?_⟩
    · have h0 := hc 0 (by omega)
      have hk0 := hc k (by omega)
      obtain ⟨b, off, spot⟩ := x
      have hspot : spot = none := by simpa [Addr.add] using World.cell?_spot h0
      subst hspot
      rw [Addr.add_lit] at hk0
      exact ⟨b, off, rfl, by rw [gx_take _ _ _ hk]; exact hk0⟩
    · have := hw y (List.mem_of_mem_take hy)
      simp [Lit.wf, IntKind.min, IntKind.max, IntKind.signed, IntKind.bits] at this
      exact this
theorem isRow_bytes {w : World} {a : Option Addr} {len cap : Nat} {zs : List Int} (h : IsRow .u8 w a len cap zs) : Bytes w a len := by
  rcases h with ⟨rfl, rfl, rfl, rfl⟩ | ⟨x, rfl, hl, hm, hz, hc, hw⟩
  · exact ⟨by omega, fun k hk => absurd hk (by omega)⟩
  · unfold maxLen at hm
    refine ⟨by omega, fun k hk => ?_⟩
    have h0 := hc 0 (by omega)
    have hk0 := hc k (by omega)
    obtain ⟨b, off, spot⟩ := x
    have hspot : spot = none := by simpa [Addr.add] using World.cell?_spot h0
    subst hspot
    rw [Addr.add_lit] at hk0
    have hb := hw (zs.getD k 0) (show gx zs k ∈ zs from gx_mem zs k (by omega))
    simp [Lit.wf, IntKind.min, IntKind.max, IntKind.signed, IntKind.bits] at hb
    exact ⟨b, off, zs.getD k 0, rfl, hk0, by simpa using hb.1, by simpa using hb.2⟩
end Go.Proofs.Ytdhoiiejcmnmbaa
namespace Go.Proofs.Ytdhoiiejcmnmbaa
open Go.RowKit
set_option maxHeartbeats 4000000
set_option linter.unusedVariables false
set_option linter.unusedSimpArgs false
theorem Held.b2 {l : List (Nat × Nat × Value)} {w0 W : World} (h : Held l w0 W) (v0 v1 : Value) (T : TypeId) : Held ((W.heap.size, 0, v0) :: (W.heap.size, 1, v1) :: l) w0 (W.alloc (.cells #[v0, v1] T)) :=
  held_box h W.heap.size [v0, v1] T rfl
theorem root_sq (v : Int) (h : 0 ≤ v) : rootD (v * v) = v ∧ rootU (v * v) = v := by
  have h1 : rootD (v * v) = v := (rootD_eq (v * v) v ⟨h, Int.le_refl _, by rw [sq_succ]; omega⟩).symm
  refine ⟨h1, ?_⟩
  unfold rootU
  rw [h1, if_neg (by omega)]
theorem rootU_ge (n : Int) (h : 0 ≤ n) : n ≤ rootU n * rootU n := by
  obtain ⟨a, b, c⟩ := rootD_is n h
  unfold rootU
  split
  · omega
  · omega
theorem rootU_le (n : Int) (h : 0 ≤ n) (m : Int) (hm : 0 ≤ m) (h2 : n ≤ m * m) : rootU n ≤ m := by
  obtain ⟨a, b, c⟩ := rootD_is n h
  unfold rootU
  split
  · rename_i hl
    by_cases e : rootD n + 1 ≤ m
    · exact e
    · have := sq_mono m (rootD n) hm (by omega); omega
  · by_cases e : rootD n ≤ m
    · exact e
    · have := sq_mono (m + 1) (rootD n) (by omega) (by omega)
      rw [sq_succ] at this; omega
/-- what the speeds of an interval are -/
theorem sp_facts (x y : Int) : ∃ p q c : Int, p = sdL x y ∧ q = sdH x y ∧ c = inE (enB x y) ∧ (enB x y != (c == 0)) = false ∧ 0 ≤ p ∧ p ≤ 100000 ∧ 0 ≤ q ∧ q ≤ 100000 ∧ (c = 0 → p * p ≤ x ∧ y ≤ q * q) := by
  refine ⟨_, _, _, rfl, rfl, rfl, ?_⟩
  cases h : enB x y
  · unfold sdL sdH inE
    rw [h]
    simp
  · have h1 := (enB_iff x y).1 h
    obtain ⟨a, b, c⟩ := rootD_is x (by omega)
    have hp : rootD x ≤ 100000 := by
      by_cases e : rootD x ≤ 100000
      · exact e
      · have := sq_mono 100001 (rootD x) (by omega) (by omega); omega
    have hq := rootU_le y (by omega) 100000 (by omega) (by omega)
    have hq0 : 0 ≤ rootU y := by
      obtain ⟨a, _, _⟩ := rootD_is y (by omega)
      unfold rootU; split <;> omega
    have hr := rootU_ge y (by omega)
    unfold sdL sdH inE
    rw [h]
    simp
    omega
end Go.Proofs.Ytdhoiiejcmnmbaa
namespace Go.Proofs.Ytdhoiiejcmnmbaa
open Go.RowKit
set_option maxHeartbeats 4000000
set_option linter.unusedVariables false
set_option linter.unusedSimpArgs false
theorem Held.b7z {l : List (Nat × Nat × Value)} {w0 W : World} (h : Held l w0 W) (v0 v1 v2 v3 v4 v5 v6 : Value) (T : TypeId) : Held ((W.heap.size, 0, v0) :: (W.heap.size, 1, v1) :: (W.heap.size, 2, v2) :: (W.heap.size, 3, v3) :: (W.heap.size, 4, v4) :: (W.heap.size, 5, v5) :: (W.heap.size, 6, v6) :: l) w0 (W.alloc (.cells #[v0, v1, v2, v3, v4, v5, v6] T)) :=
  held_box h W.heap.size [v0, v1, v2, v3, v4, v5, v6] T rfl
set_option maxRecDepth 100000 in
theorem walk_FnLaunches (a0 : Option Addr) (len0 cap0 : Nat) (z0 : List Int) (w : World) (w0 : IsRow .u8 w a0 len0 cap0 z0) :
    Calls Try.prog 3 #[.slice a0 len0 cap0] w fun e w' => e = .returned (.bool true) ∧ Below w.heap.size w w' := by
  have HS := Lib.hid (isRow_bytes w0)
  clear w0
  by_cases hbig : 4096 < len0
  · go_enter Try.func3, Try.ntmps3
    go_wp2_with fail
    refine (l_big _ _ _ _).mono ?_
    rintro e w' ⟨rfl, rfl⟩
    go_wp2
    go_ret
    exact ⟨rfl, Below.refl _ _⟩
  go_enter Try.func3, Try.ntmps3
  go_wp2_with fail
  refine (l_big _ _ _ _).mono ?_
  rintro e w' ⟨rfl, rfl⟩
  go_wp2_with fail
  refine (s_DrawLaunchForce _ _ _ _ HS.out).mono ?_
  rintro e w1 ⟨z, x, y, t, rfl, hb⟩
  have h2 := (((held_start w).later hb).b7z (.int .i64 z.k) (.int .i64 z.l) (.int .i64 z.r) (.int .i64 z.a) (.int .i64 z.b) (.int .i64 z.c) (.int .i64 z.d) 27).b2 (.int .i64 x) (.int .i64 y) 25
  simp only [World.size_alloc] at h2
  have H2 := Lib.hid h2
  clear hb h2 hbig
  have HF := fun (h : lfE z x y t = 0) => lf_facts h
  have C1 := fun w => i_LaunchForce z x y t w
  have C2 := fun w => s_LaunchForce z x y t w
  have C3 := fun w => i_ChangeOf z w
  generalize lfV z x y t = f at *
  generalize lfE z x y t = c at *
  have e0 : (c != c) = false := by simp
  have d0 : (c == c) = true := by simp
  have e1 : (f != f) = false := by simp
  have d1 : (f == f) = true := by simp
  have a0 := Held.at H2.out (w1.heap.size + 1) 0 (.int .i64 x) (by simp)
  have a1 := Held.at H2.out (w1.heap.size + 1) 1 (.int .i64 y) (by simp)
  have a2 := Held.at H2.out (w1.heap.size) 0 (.int .i64 z.k) (by simp)
  have a3 := Held.at H2.out (w1.heap.size) 1 (.int .i64 z.l) (by simp)
  have a4 := Held.at H2.out (w1.heap.size) 2 (.int .i64 z.r) (by simp)
  have a5 := Held.at H2.out (w1.heap.size) 3 (.int .i64 z.a) (by simp)
  have a6 := Held.at H2.out (w1.heap.size) 4 (.int .i64 z.b) (by simp)
  have a7 := Held.at H2.out (w1.heap.size) 5 (.int .i64 z.c) (by simp)
  have a8 := Held.at H2.out (w1.heap.size) 6 (.int .i64 z.d) (by simp)
  have zz0 := Held.lt H2.out (w1.heap.size + 1) 0 (.int .i64 x) (by simp)
  have zz1 := Held.lt H2.out (w1.heap.size) 0 (.int .i64 z.k) (by simp)
  go_wp2_with fail
  refine (C1 _).mono ?_
  rintro e w3 ⟨rfl, hb⟩
  have H3 := Lib.hid (H2.out.later hb)
  clear hb
  clear a0 a1 a2 a3 a4 a5 a6 a7 a8
  have a0 := Held.at H3.out (w1.heap.size + 1) 0 (.int .i64 x) (by simp)
  have a1 := Held.at H3.out (w1.heap.size + 1) 1 (.int .i64 y) (by simp)
  have a2 := Held.at H3.out (w1.heap.size) 0 (.int .i64 z.k) (by simp)
  have a3 := Held.at H3.out (w1.heap.size) 1 (.int .i64 z.l) (by simp)
  have a4 := Held.at H3.out (w1.heap.size) 2 (.int .i64 z.r) (by simp)
  have a5 := Held.at H3.out (w1.heap.size) 3 (.int .i64 z.a) (by simp)
  have a6 := Held.at H3.out (w1.heap.size) 4 (.int .i64 z.b) (by simp)
  have a7 := Held.at H3.out (w1.heap.size) 5 (.int .i64 z.c) (by simp)
  have a8 := Held.at H3.out (w1.heap.size) 6 (.int .i64 z.d) (by simp)
  have zz0 := Held.lt H3.out (w1.heap.size + 1) 0 (.int .i64 x) (by simp)
  have zz1 := Held.lt H3.out (w1.heap.size) 0 (.int .i64 z.k) (by simp)
  go_wp2_with fail
  refine (C2 _).mono ?_
  rintro e w4 ⟨rfl, hb⟩
  have H4 := Lib.hid (H3.out.later hb)
  clear hb
  clear a0 a1 a2 a3 a4 a5 a6 a7 a8
  have a0 := Held.at H4.out (w1.heap.size + 1) 0 (.int .i64 x) (by simp)
  have a1 := Held.at H4.out (w1.heap.size + 1) 1 (.int .i64 y) (by simp)
  have a2 := Held.at H4.out (w1.heap.size) 0 (.int .i64 z.k) (by simp)
  have a3 := Held.at H4.out (w1.heap.size) 1 (.int .i64 z.l) (by simp)
  have a4 := Held.at H4.out (w1.heap.size) 2 (.int .i64 z.r) (by simp)
  have a5 := Held.at H4.out (w1.heap.size) 3 (.int .i64 z.a) (by simp)
  have a6 := Held.at H4.out (w1.heap.size) 4 (.int .i64 z.b) (by simp)
  have a7 := Held.at H4.out (w1.heap.size) 5 (.int .i64 z.c) (by simp)
  have a8 := Held.at H4.out (w1.heap.size) 6 (.int .i64 z.d) (by simp)
  have zz0 := Held.lt H4.out (w1.heap.size + 1) 0 (.int .i64 x) (by simp)
  have zz1 := Held.lt H4.out (w1.heap.size) 0 (.int .i64 z.k) (by simp)
  by_cases hc : c = 0
  · obtain ⟨f1, f2, f3, f4, f5, f6, f7, f8, f9, f10, f11⟩ := HF hc
    subst hc
    have hne : ((0 : Int) != 0) = false := rfl
    obtain ⟨g1, g2, g3, _⟩ := fc_bd z f3
    obtain ⟨l1, l2⟩ := ((sgB_iff z).1 f3).2.1
    obtain ⟨b1, b2, b3⟩ := ch_bd z f3
    rw [f1, f2] at C3
    generalize coH z = ch at *
    generalize chH z = ch2 at *
    generalize chL z = cl at *
    obtain ⟨m, hm⟩ : ∃ m, m = 2 * f * z.l := ⟨_, rfl⟩
    have m1 : 0 ≤ m := by rw [hm]; exact Int.mul_nonneg (by omega) (by omega)
    have m2 : m ≤ 8000000000 := by
      rw [hm]
      have := Int.mul_le_mul (show 2 * f ≤ 40000 by omega) l2 (by omega) (by omega : (0 : Int) ≤ 40000)
      omega
    rw [← hm] at f10
    have hw1 : IntKind.i64.wrap (2 * f) = 2 * f := IntWalk.i64_in _ ⟨by omega, by omega⟩
    have hw2 : IntKind.i64.wrap (2 * f * z.l) = m := by rw [← hm]; exact IntWalk.i64_in _ ⟨by omega, by omega⟩
    have hw3 : IntKind.i64.wrap (x + cl) = x + cl := IntWalk.i64_in _ ⟨by omega, by omega⟩
    have hw4 : IntKind.i64.wrap (x + cl + m) = x + cl + m := IntWalk.i64_in _ ⟨by omega, by omega⟩
    have hw5 : IntKind.i64.wrap (f - 1) = f - 1 := IntWalk.i64_in _ ⟨by omega, by omega⟩
    have hw6 : IntKind.i64.wrap (2 * (f - 1)) = 2 * (f - 1) := IntWalk.i64_in _ ⟨by omega, by omega⟩
    clear HF f1 f2 f3 hm C1 C2
    go_wp2_with fail
    refine (C3 _).mono ?_
    rintro e w5 ⟨rfl, hb⟩
    have H5 := Lib.hid ((H4.out.later hb).b2 (.int .i64 cl) (.int .i64 ch) 25)
    clear hb
    clear a0 a1 a2 a3 a4 a5 a6 a7 a8
    have a0 := Held.at H5.out (w5.heap.size) 0 (.int .i64 cl) (by simp)
    have a1 := Held.at H5.out (w5.heap.size) 1 (.int .i64 ch) (by simp)
    have a2 := Held.at H5.out (w1.heap.size + 1) 0 (.int .i64 x) (by simp)
    have a3 := Held.at H5.out (w1.heap.size + 1) 1 (.int .i64 y) (by simp)
    have a4 := Held.at H5.out (w1.heap.size) 0 (.int .i64 z.k) (by simp)
    have a5 := Held.at H5.out (w1.heap.size) 1 (.int .i64 z.l) (by simp)
    have a6 := Held.at H5.out (w1.heap.size) 2 (.int .i64 z.r) (by simp)
    have a7 := Held.at H5.out (w1.heap.size) 3 (.int .i64 z.a) (by simp)
    have a8 := Held.at H5.out (w1.heap.size) 4 (.int .i64 z.b) (by simp)
    have a9 := Held.at H5.out (w1.heap.size) 5 (.int .i64 z.c) (by simp)
    have a10 := Held.at H5.out (w1.heap.size) 6 (.int .i64 z.d) (by simp)
    have zz0 := Held.lt H5.out (w5.heap.size) 0 (.int .i64 cl) (by simp)
    have zz1 := Held.lt H5.out (w1.heap.size + 1) 0 (.int .i64 x) (by simp)
    have zz2 := Held.lt H5.out (w1.heap.size) 0 (.int .i64 z.k) (by simp)
    by_cases hf : f = 0
    · have hf0 : (f == 0) = true := by simpa using hf
      clear hf f11
      go_wp2_with fail
      go_ret
      exact ⟨rfl, H5.out.is⟩
    · have hf0 : (f == 0) = false := by simpa using hf
      have f12 : x + cl + 2 * (f - 1) * z.l < t := by
        rcases f11 with h | h
        · exact absurd h hf
        · exact h
      obtain ⟨m', hm⟩ : ∃ m', m' = 2 * (f - 1) * z.l := ⟨_, rfl⟩
      have n1 : 0 ≤ m' := by rw [hm]; exact Int.mul_nonneg (by omega) (by omega)
      have n2 : m' ≤ 8000000000 := by
        rw [hm]
        have := Int.mul_le_mul (show 2 * (f - 1) ≤ 40000 by omega) l2 (by omega) (by omega : (0 : Int) ≤ 40000)
        omega
      rw [← hm] at f12
      have hw7 : IntKind.i64.wrap (2 * (f - 1) * z.l) = m' := by rw [← hm]; exact IntWalk.i64_in _ ⟨by omega, by omega⟩
      have hw8 : IntKind.i64.wrap (x + cl + m') = x + cl + m' := IntWalk.i64_in _ ⟨by omega, by omega⟩
      clear hf f11 hm
      go_wp2_with fail
      go_ret
      exact ⟨rfl, H5.out.is⟩
  · have hne : (c != 0) = true := by simpa using hc
    clear HF hc
    go_wp2_with fail
    go_ret
    exact ⟨rfl, H4.out.is⟩
end Go.Proofs.Ytdhoiiejcmnmbaa
