/- Contracts of the laws' own helpers on segments. -/
import Derived.Test.YtnmlkigpiaekjaaSgs
import Derived.Test.YtnmlkigpiaekjaaIvL
import Derived.Laws.ResultCell
namespace Go.Proofs.Ytnmlkigpiaekjaa
open Go.RowKit
set_option maxHeartbeats 2000000
set_option linter.unusedVariables false
set_option linter.unusedSimpArgs false
theorem l_toSegment (x : Sg) (w : World) : Calls Try.prog 81 #[.agg #[.int .i64 x.k, .int .i64 x.l, .int .i64 x.r, .int .i64 x.a, .int .i64 x.b, .int .i64 x.c, .int .i64 x.d]] w fun e w' => e = .returned (.agg #[.int .i64 x.k, .int .i64 x.l, .int .i64 x.r, .int .i64 x.a, .int .i64 x.b, .int .i64 x.c, .int .i64 x.d]) ∧ Later w w' := by
  go_enter Try.func81, Try.ntmps81
  go_wp2_with (go_at_call 21; refine (l_toInterval _ _ _).mono ?_; rintro e w1 ⟨rfl, hb⟩; obtain ⟨H, hcc, hff, hzz⟩ := later_facts hb; clear hb; (try simp at hzz); (try simp only [World.heap_drewN, World.cell?_drewN, World.frozen?_drewN] at hcc hff); have hz0 : w.heap.size < w1.heap.size := (by omega); (try (have hz1 : w.heap.size + 1 < w1.heap.size := (by omega))); (try (have hz2 : w.heap.size + 1 + 1 < w1.heap.size := (by omega))))
  refine bodyPost_ret (v := .agg #[.int .i64 x.k, .int .i64 x.l, .int .i64 x.r, .int .i64 x.a, .int .i64 x.b, .int .i64 x.c, .int .i64 x.d]) (by simp [results, Try.results81, go_sem, *]) rfl ⟨rfl, ?_⟩
  exact (by repeat (first | (with_reducible exact Later.refl _) | (with_reducible exact Hid.out (by assumption)) | (with_reducible refine Later.setCell ?_ (by simp; omega) _) | (with_reducible refine Later.setCell ?_ (by simp) _) | (with_reducible refine Later.alloc ?_ _) | (with_reducible refine Later.drewN ?_ _) | (with_reducible refine Later.drew ?_) | (with_reducible refine Later.trans ?_ (Hid.out (by assumption)))))
theorem l_eqSegment (x y : Sg) (w : World) : Calls Try.prog 82 #[.agg #[.int .i64 x.k, .int .i64 x.l, .int .i64 x.r, .int .i64 x.a, .int .i64 x.b, .int .i64 x.c, .int .i64 x.d], .agg #[.int .i64 y.k, .int .i64 y.l, .int .i64 y.r, .int .i64 y.a, .int .i64 y.b, .int .i64 y.c, .int .i64 y.d]] w fun e w' => e = .returned (.bool (eqB x y)) ∧ Later w w' := by
  have key : ∀ p q r s t : Bool, (x.k == y.k) = p → (x.l == y.l) = q → (x.r == y.r) = r → (x.a == y.a && x.b == y.b) = s → (x.c == y.c && x.d == y.d) = t → Hid (eqB x y = (p && q && r && s && t)) := by
    rintro p q r s t rfl rfl rfl rfl rfl; exact Lib.hid rfl
  cases h1 : (x.k == y.k)
  · have K := key _ _ _ _ _ h1 rfl rfl rfl rfl
    have e1 : (x.k != y.k) = true := by simp [bne, h1]
    clear key h1
    go_enter Try.func82, Try.ntmps82
    go_wp2
    go_ret
    exact ⟨ret_b (by rw [K.out]; simp), (by repeat (first | (with_reducible exact Later.refl _) | (with_reducible exact Hid.out (by assumption)) | (with_reducible refine Later.setCell ?_ (by simp; omega) _) | (with_reducible refine Later.setCell ?_ (by simp) _) | (with_reducible refine Later.alloc ?_ _) | (with_reducible refine Later.drewN ?_ _) | (with_reducible refine Later.drew ?_) | (with_reducible refine Later.trans ?_ (Hid.out (by assumption)))))⟩
  · have e1 : (x.k != y.k) = false := by simp [bne, h1]
    cases h2 : (x.l == y.l)
    · have K := key _ _ _ _ _ h1 h2 rfl rfl rfl
      have e2 : (x.l != y.l) = true := by simp [bne, h2]
      clear key h1 h2
      go_enter Try.func82, Try.ntmps82
      go_wp2
      go_ret
      exact ⟨ret_b (by rw [K.out]; simp), (by repeat (first | (with_reducible exact Later.refl _) | (with_reducible exact Hid.out (by assumption)) | (with_reducible refine Later.setCell ?_ (by simp; omega) _) | (with_reducible refine Later.setCell ?_ (by simp) _) | (with_reducible refine Later.alloc ?_ _) | (with_reducible refine Later.drewN ?_ _) | (with_reducible refine Later.drew ?_) | (with_reducible refine Later.trans ?_ (Hid.out (by assumption)))))⟩
    · have e2 : (x.l != y.l) = false := by simp [bne, h2]
      cases h3 : (x.r == y.r)
      · have K := key _ _ _ _ _ h1 h2 h3 rfl rfl
        have e3 : (x.r != y.r) = true := by simp [bne, h3]
        clear key h1 h2 h3
        go_enter Try.func82, Try.ntmps82
        go_wp2
        go_ret
        exact ⟨ret_b (by rw [K.out]; simp), (by repeat (first | (with_reducible exact Later.refl _) | (with_reducible exact Hid.out (by assumption)) | (with_reducible refine Later.setCell ?_ (by simp; omega) _) | (with_reducible refine Later.setCell ?_ (by simp) _) | (with_reducible refine Later.alloc ?_ _) | (with_reducible refine Later.drewN ?_ _) | (with_reducible refine Later.drew ?_) | (with_reducible refine Later.trans ?_ (Hid.out (by assumption)))))⟩
      · have e3 : (x.r != y.r) = false := by simp [bne, h3]
        cases h4 : (x.a == y.a && x.b == y.b) <;> cases h5 : (x.c == y.c && x.d == y.d)
        all_goals
          have K := key _ _ _ _ _ h1 h2 h3 h4 h5
          have H4 := Lib.hid h4; have H5 := Lib.hid h5
          clear key h1 h2 h3 h4 h5
          go_enter Try.func82, Try.ntmps82
          go_wp2_with (go_at_call 52; refine (l_eqInterval _ _ _ _ _).mono ?_; (try rw [H4.out]); (try rw [H5.out]); rintro e w1 ⟨rfl, hb⟩; obtain ⟨H, hcc, hff, hzz⟩ := later_facts hb; clear hb; (try simp at hzz); (try simp only [World.heap_drewN, World.cell?_drewN, World.frozen?_drewN] at hcc hff); have hz0 : w.heap.size < w1.heap.size := (by omega); (try (have hz1 : w.heap.size + 1 < w1.heap.size := (by omega))); (try (have hz2 : w.heap.size + 1 + 1 < w1.heap.size := (by omega))))
          go_ret
          exact ⟨ret_b (by rw [K.out]; rfl), (by repeat (first | (with_reducible exact Later.refl _) | (with_reducible exact Hid.out (by assumption)) | (with_reducible refine Later.setCell ?_ (by simp; omega) _) | (with_reducible refine Later.setCell ?_ (by simp) _) | (with_reducible refine Later.alloc ?_ _) | (with_reducible refine Later.drewN ?_ _) | (with_reducible refine Later.drew ?_) | (with_reducible refine Later.trans ?_ (Hid.out (by assumption)))))⟩
end Go.Proofs.Ytnmlkigpiaekjaa
