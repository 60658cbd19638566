/- Contracts of chapter 6: the program's verdict on a segment, the energy behind it. -/
import Derived.Test.YtdhoiiejcmnmbaaEnI
import Derived.Test.YtdhoiiejcmnmbaaHeld
import Derived.RegionTactic
import Derived.ChangeAlike
import Derived.BigQuiet
import Derived.Deep.QuietTactic
namespace Go.Proofs.Ytdhoiiejcmnmbaa
open Go.RowKit
set_option maxHeartbeats 4000000
set_option linter.unusedVariables false
set_option linter.unusedSimpArgs false
/-- a box with an interval in a slot, the world a later one than w0 -/
def Box2 (w0 : World) (L H : Int) (s : Value) (w : World) : Prop := ∃ g : Nat, s = .pointer (some ⟨g, 0, none⟩) ∧ Held [(g, 0, .int .i64 L), (g, 1, .int .i64 H)] w0 w
/-- the cells of a new block -/
def boxL (g : Nat) : Nat → List Value → List (Nat × Nat × Value)
  | _, [] => []
  | i, v :: vs => (g, i, v) :: boxL g (i + 1) vs
theorem boxL_mem (g : Nat) (vs : List Value) : ∀ i, ∀ x ∈ boxL g i vs, x.1 = g ∧ ∃ j, x.2.1 = i + j ∧ vs[j]? = some x.2.2 := by
  induction vs with
  | nil => intro i x hx; simp [boxL] at hx
  | cons v vs ih =>
    intro i x hx
    rcases List.mem_cons.1 hx with rfl | hx
    · exact ⟨rfl, 0, rfl, rfl⟩
    · obtain ⟨e, j, ej, hj⟩ := ih (i + 1) x hx
      exact ⟨e, j + 1, by omega, by simpa using hj⟩
theorem held_box {l : List (Nat × Nat × Value)} {w0 W : World} (h : Held l w0 W) (g : Nat) (vs : List Value) (T : TypeId) (hg : g = W.heap.size) : Held (boxL g 0 vs ++ l) w0 (W.alloc (.cells vs.toArray T)) := by
  subst hg
  refine ⟨fun x hx => ?_, h.2.alloc _⟩
  rcases List.mem_append.1 hx with hx | hx
  · obtain ⟨e, j, ej, hj⟩ := boxL_mem _ _ _ x hx
    have hh := heap_alloc_new W (.cells vs.toArray T)
    refine ⟨by rw [e]; simp, ?_⟩
    rw [e, show x.2.1 = j by omega]
    simp only [World.cell?, hh]; simp [hj]
  · exact (h.alloc _).1 x hx
theorem held_start (w : World) : Held [] w w := ⟨fun x hx => by simp at hx, Later.refl _⟩
theorem held_two {w0 W w' : World} {g : Nat} {u v : Value} (h : Later w0 W) (k : Later W w') (hu : w'.cell? ⟨g, 0, none⟩ = some u) (hv : w'.cell? ⟨g, 1, none⟩ = some v) (hg : g < w'.heap.size) : Held [(g, 0, u), (g, 1, v)] w0 w' :=
  held_more (held_more ⟨fun x hx => by simp at hx, h.trans k⟩ g 1 v hv hg) g 0 u hu hg
theorem i_PassVerdict (x : Sg) (a b : Int) (w : World) :
    Calls Try.prog 29 #[.agg #[.int .i64 x.k, .int .i64 x.l, .int .i64 x.r, .int .i64 x.a, .int .i64 x.b, .int .i64 x.c, .int .i64 x.d], .agg #[.int .i64 a, .int .i64 b]] w fun e w' => e = .returned (.tuple #[.int .i64 (pvV x a b), .int .i64 (pvE x a b)]) ∧ Later w w' := by
  cases h : sgB x
  · have e1 : pvV x a b = 0 := by unfold pvV; rw [h]; rfl
    have e2 : pvE x a b = 1 := by unfold pvE; rw [h]; rfl
    rw [e1, e2]
    go_enter Try.func29, Try.ntmps29
    go_wp2_with (first | (go_at_call 63; refine (i_IsSegment x _).mono ?_; rintro e w1 ⟨rfl, hb⟩; obtain ⟨H, hcc, hff, hzz⟩ := later_facts hb; clear hb; (try simp at hzz); (try simp only [World.heap_drewN, World.cell?_drewN, World.frozen?_drewN] at hcc hff); have hz0 : w.heap.size < w1.heap.size := (by omega); (try (have hz1 : w.heap.size + 1 < w1.heap.size := (by omega))); (try (have hz2 : w.heap.size + 1 + 1 < w1.heap.size := (by omega))); (try (have hz3 : w.heap.size + 1 + 1 + 1 < w1.heap.size := (by omega))); (try (have hz4 : w.heap.size + 1 + 1 + 1 + 1 < w1.heap.size := (by omega)))))
    go_ret2
    exact ⟨rfl, (by repeat (first | (with_reducible exact Later.refl _) | (with_reducible exact Hid.out (by assumption)) | (with_reducible refine Later.alloc ?_ _) | (with_reducible refine Later.setCell ?_ (by simp; omega) _) | (with_reducible refine Later.setCell ?_ (by simp) _) | (with_reducible refine Later.drewN ?_ _) | (with_reducible refine Later.drew ?_) | (with_reducible refine Later.trans ?_ (Hid.out (by assumption)))))⟩
  · cases h2 : enB a b
    · have e1 : pvV x a b = 0 := by unfold pvV; rw [h, h2]; rfl
      have e2 : pvE x a b = 1 := by unfold pvE; rw [h, h2]; rfl
      rw [e1, e2]
      go_enter Try.func29, Try.ntmps29
      go_wp2_with (first | (go_at_call 63; refine (i_IsSegment x _).mono ?_; rintro e w1 ⟨rfl, hb⟩; obtain ⟨H, hcc, hff, hzz⟩ := later_facts hb; clear hb; (try simp at hzz); (try simp only [World.heap_drewN, World.cell?_drewN, World.frozen?_drewN] at hcc hff); have hz0 : w.heap.size < w1.heap.size := (by omega); (try (have hz1 : w.heap.size + 1 < w1.heap.size := (by omega))); (try (have hz2 : w.heap.size + 1 + 1 < w1.heap.size := (by omega))); (try (have hz3 : w.heap.size + 1 + 1 + 1 < w1.heap.size := (by omega))); (try (have hz4 : w.heap.size + 1 + 1 + 1 + 1 < w1.heap.size := (by omega)))) | (go_at_call 64; refine (i_IsEnergy _ _ _).mono ?_; rintro e w1 ⟨rfl, hb⟩; obtain ⟨H, hcc, hff, hzz⟩ := later_facts hb; clear hb; (try simp at hzz); (try simp only [World.heap_drewN, World.cell?_drewN, World.frozen?_drewN] at hcc hff); have hz0 : w.heap.size < w1.heap.size := (by omega); (try (have hz1 : w.heap.size + 1 < w1.heap.size := (by omega))); (try (have hz2 : w.heap.size + 1 + 1 < w1.heap.size := (by omega))); (try (have hz3 : w.heap.size + 1 + 1 + 1 < w1.heap.size := (by omega))); (try (have hz4 : w.heap.size + 1 + 1 + 1 + 1 < w1.heap.size := (by omega)))))
      go_ret2
      exact ⟨rfl, (by repeat (first | (with_reducible exact Later.refl _) | (with_reducible exact Hid.out (by assumption)) | (with_reducible refine Later.alloc ?_ _) | (with_reducible refine Later.setCell ?_ (by simp; omega) _) | (with_reducible refine Later.setCell ?_ (by simp) _) | (with_reducible refine Later.drewN ?_ _) | (with_reducible refine Later.drew ?_) | (with_reducible refine Later.trans ?_ (Hid.out (by assumption)))))⟩
    · have e1 : pvV x a b = vrd (a + chL x) (b + chH x) := by unfold pvV; rw [h, h2]; rfl
      have e2 : pvE x a b = 0 := by unfold pvE; rw [h, h2]; rfl
      rw [e1, e2]
      obtain ⟨c1, c2, c3⟩ := ch_bd x h
      obtain ⟨c4, c5, c6⟩ := (enB_iff a b).1 h2
      clear e1 e2
      go_enter Try.func29, Try.ntmps29
      go_upto_region 1 with (fail)
      refine into (Held [(w.heap.size, 0, .int .i64 x.k), (w.heap.size, 1, .int .i64 x.l), (w.heap.size, 2, .int .i64 x.r), (w.heap.size, 3, .int .i64 x.a), (w.heap.size, 4, .int .i64 x.b), (w.heap.size, 5, .int .i64 x.c), (w.heap.size, 6, .int .i64 x.d), (w.heap.size + 1, 0, .int .i64 a), (w.heap.size + 1, 1, .int .i64 b)] w) ⟨by simp <;> omega, (by repeat (first | (with_reducible exact Later.refl _) | (with_reducible exact Hid.out (by assumption)) | (with_reducible refine Later.alloc ?_ _) | (with_reducible refine Later.setCell ?_ (by simp; omega) _) | (with_reducible refine Later.setCell ?_ (by simp) _) | (with_reducible refine Later.drewN ?_ _) | (with_reducible refine Later.drew ?_) | (with_reducible refine Later.trans ?_ (Hid.out (by assumption)))))⟩ ?_
      intro W hW
      obtain ⟨p0, p1, p2, p3, p4, p5, p6, p7, p8, _⟩ := Held.s9 hW
      have zz := hW.1
      simp at zz
      obtain ⟨⟨z0, _⟩, _, _, _, _, _, _, ⟨z1, _⟩, _⟩ := zz
      go_wp2_with (first | (go_at_call 63; refine (i_IsSegment x _).mono ?_; rintro e w1 ⟨rfl, hb⟩; obtain ⟨H, hcc, hff, hzz⟩ := later_facts hb; clear hb; (try simp at hzz); (try simp only [World.heap_drewN, World.cell?_drewN, World.frozen?_drewN] at hcc hff); have hz0 : w.heap.size < w1.heap.size := (by omega); (try (have hz1 : w.heap.size + 1 < w1.heap.size := (by omega))); (try (have hz2 : w.heap.size + 1 + 1 < w1.heap.size := (by omega))); (try (have hz3 : w.heap.size + 1 + 1 + 1 < w1.heap.size := (by omega))); (try (have hz4 : w.heap.size + 1 + 1 + 1 + 1 < w1.heap.size := (by omega)))) | (go_at_call 64; refine (i_IsEnergy _ _ _).mono ?_; rintro e w1 ⟨rfl, hb⟩; obtain ⟨H, hcc, hff, hzz⟩ := later_facts hb; clear hb; (try simp at hzz); (try simp only [World.heap_drewN, World.cell?_drewN, World.frozen?_drewN] at hcc hff); have hz0 : w.heap.size < w1.heap.size := (by omega); (try (have hz1 : w.heap.size + 1 < w1.heap.size := (by omega))); (try (have hz2 : w.heap.size + 1 + 1 < w1.heap.size := (by omega))); (try (have hz3 : w.heap.size + 1 + 1 + 1 < w1.heap.size := (by omega))); (try (have hz4 : w.heap.size + 1 + 1 + 1 + 1 < w1.heap.size := (by omega)))))
      refine into (Held [(w.heap.size, 0, .int .i64 x.k), (w.heap.size, 1, .int .i64 x.l), (w.heap.size, 2, .int .i64 x.r), (w.heap.size, 3, .int .i64 x.a), (w.heap.size, 4, .int .i64 x.b), (w.heap.size, 5, .int .i64 x.c), (w.heap.size, 6, .int .i64 x.d), (w.heap.size + 1, 0, .int .i64 a), (w.heap.size + 1, 1, .int .i64 b)] w) (Held.later hW (by repeat (first | (with_reducible exact Later.refl _) | (with_reducible exact Hid.out (by assumption)) | (with_reducible refine Later.alloc ?_ _) | (with_reducible refine Later.setCell ?_ (by simp; omega) _) | (with_reducible refine Later.setCell ?_ (by simp) _) | (with_reducible refine Later.drewN ?_ _) | (with_reducible refine Later.drew ?_) | (with_reducible refine Later.trans ?_ (Hid.out (by assumption)))))) ?_
      clear p0 p1 p2 p3 p4 p5 p6 p7 p8
      intro W hW
      go_cut [6] (Box2 w (a + chL x) (b + chH x))
      case first =>
        go_region_held3 (fun w' => w'.cell? ⟨w.heap.size, 0, none⟩ = some (.int .i64 x.k) ∧ w'.cell? ⟨w.heap.size, 1, none⟩ = some (.int .i64 x.l) ∧ w'.cell? ⟨w.heap.size, 2, none⟩ = some (.int .i64 x.r) ∧ w'.cell? ⟨w.heap.size, 3, none⟩ = some (.int .i64 x.a) ∧ w'.cell? ⟨w.heap.size, 4, none⟩ = some (.int .i64 x.b) ∧ w'.cell? ⟨w.heap.size, 5, none⟩ = some (.int .i64 x.c) ∧ w'.cell? ⟨w.heap.size, 6, none⟩ = some (.int .i64 x.d) ∧ w'.cell? ⟨w.heap.size + 1, 0, none⟩ = some (.int .i64 a) ∧ w'.cell? ⟨w.heap.size + 1, 1, none⟩ = some (.int .i64 b) ∧ Held [(w.heap.size, 0, .int .i64 x.k), (w.heap.size, 1, .int .i64 x.l), (w.heap.size, 2, .int .i64 x.r), (w.heap.size, 3, .int .i64 x.a), (w.heap.size, 4, .int .i64 x.b), (w.heap.size, 5, .int .i64 x.c), (w.heap.size, 6, .int .i64 x.d), (w.heap.size + 1, 0, .int .i64 a), (w.heap.size + 1, 1, .int .i64 b)] w w') (exact Held.s9 (Held.later hW (by repeat (first | exact Later.refl _ | refine Later.drew ?_ | refine Later.drewN ?_ _ | refine Later.alloc ?_ _ | refine Later.trans ?_ (Hid.out (by assumption)) | refine Later.set_at ?_ ?_ _ _))))
          (first
            | (go_at_call 71; refine (i_coastingChange x _ h).mono ?_; rintro e w1 ⟨rfl, hb⟩; have H := Lib.hid hb; (first | (have F := fr_alloc hb; obtain ⟨f1, f2, f3, f4⟩ := Fr.o2 F) | (have F := fr_alloc_drew hb; obtain ⟨f1, f2, f3, f4⟩ := Fr.o2 F) | (have F := fr_later (by assumption) hb; obtain ⟨f1, f2, f3, f4⟩ := Fr.o2 F) | skip); clear hb)
            | (go_at_call 76; refine (i_plus _ _ _ _ _ (by omega) (by omega) (by omega) (by omega) (by omega) (by omega) (by omega) (by omega)).mono ?_; rintro e w1 ⟨rfl, hb⟩; have H := Lib.hid hb; (first | (have F := fr_alloc hb; obtain ⟨f1, f2, f3, f4⟩ := Fr.o2 F) | (have F := fr_alloc_drew hb; obtain ⟨f1, f2, f3, f4⟩ := Fr.o2 F) | (have F := fr_later (by assumption) hb; obtain ⟨f1, f2, f3, f4⟩ := Fr.o2 F) | skip); clear hb))
        all_goals
          go_wp2_with fail
          go_meet
          exact ⟨_, rfl, held_two (Held.is hW) (by repeat (first | exact Later.refl _ | refine Later.drew ?_ | refine Later.drewN ?_ _ | refine Later.alloc ?_ _ | refine Later.trans ?_ (Hid.out (by assumption)) | refine Later.set_at ?_ ?_ _ _)) (by first | (simp; done) | (simp [*]; done) | (simp [go_sem, *]; done)) (by first | (simp; done) | (simp [*]; done) | (simp [go_sem, *]; done)) (by first | (simp; done) | (simp; exact Fr.lt (by assumption)))⟩
      case rest =>
        obtain ⟨g, rfl, hG⟩ := hcut
        obtain ⟨q0, q1, _⟩ := Held.s2 hG
        by_cases h3 : 0 ≤ a + chL x
        · have e1 : Hid (vrd (a + chL x) (b + chH x) = 2) := Lib.hid (by unfold vrd; rw [if_pos h3])
          go_wp2
          go_ret2
          exact ⟨ret_2i e1.out.symm rfl, Held.is hG⟩
        · by_cases h4 : b + chH x < 0
          · have e1 : Hid (vrd (a + chL x) (b + chH x) = 0) := Lib.hid (by unfold vrd; rw [if_neg h3, if_pos h4])
            go_wp2
            go_ret2
            exact ⟨ret_2i e1.out.symm rfl, Held.is hG⟩
          · have e1 : Hid (vrd (a + chL x) (b + chH x) = 1) := Lib.hid (by unfold vrd; rw [if_neg h3, if_neg h4])
            go_wp2
            go_ret2
            exact ⟨ret_2i e1.out.symm rfl, Held.is hG⟩
end Go.Proofs.Ytdhoiiejcmnmbaa
