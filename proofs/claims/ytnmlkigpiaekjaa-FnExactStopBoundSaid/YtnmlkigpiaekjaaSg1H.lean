/- Segments that hold, of the program. -/
import Derived.Test.YtnmlkigpiaekjaaSg1
namespace Go.Proofs.Ytnmlkigpiaekjaa
open Go.RowKit
set_option maxHeartbeats 2000000
set_option linter.unusedVariables false
set_option linter.unusedSimpArgs false
theorem i_Holds (x : Sg) (w : World) : Calls Try.prog 119 #[.agg #[.int .i64 x.k, .int .i64 x.l, .int .i64 x.r, .int .i64 x.a, .int .i64 x.b, .int .i64 x.c, .int .i64 x.d]] w fun e w' => e = .returned (.bool (hldB x)) ∧ Later w w' := by
  by_cases hk : kndB x.k = true
  · cases h1 : sgB x
    · have hK := Lib.hid hk
      clear hk
      go_enter Try.func119, Try.ntmps119
      go_wp2_with (first
      | (go_at_call 111; refine (i_kindOf _ hK.out _).mono ?_; rintro e w' ⟨rfl, rfl⟩)
      | (go_at_call 97; refine (i_IsSegment x _).mono ?_; rintro e w1 ⟨rfl, hb⟩; obtain ⟨H, hcc, hff, hzz⟩ := later_facts hb; clear hb; (try simp at hzz); have hz0 : w.heap.size < w1.heap.size := (by omega)))
      go_ret
      exact ⟨ret_b (by unfold hldB; rw [h1]; simp), (by repeat (first | exact Later.refl _ | refine Later.alloc ?_ _ | refine Later.drewN ?_ _ | refine Later.drew ?_ | refine Later.trans ?_ (Hid.out (by assumption))))⟩
    · rcases x with ⟨k, l, r, a, b, c, d⟩
      rcases kinds hk with hkk | hkk | hkk | hkk | hkk
      · dsimp only at hkk h1 hk
        subst hkk
        have hK := Lib.hid hk
        have a1 := as0_1; have a3 := as0_3; have a4 := as0_4
        clear hk
        go_enter Try.func119, Try.ntmps119
        go_wp2_with (first
      | (go_at_call 111; refine (i_kindOf _ hK.out _).mono ?_; rintro e w' ⟨rfl, rfl⟩; generalize hq : kndV _ = V; obtain rfl : V = .iface 144 (.agg #[]) := hq.symm.trans (by simp [kndV]); clear hq)
      | (go_at_call 97; refine (i_IsSegment ⟨0, l, r, a, b, c, d⟩ _).mono ?_; rintro e w1 ⟨rfl, hb⟩; obtain ⟨H, hcc, hff, hzz⟩ := later_facts hb; clear hb; (try simp at hzz); have hz0 : w.heap.size < w1.heap.size := (by omega)))
        go_ret
        exact ⟨ret_b (by unfold hldB; rw [h1]; simp), (by repeat (first | exact Later.refl _ | refine Later.alloc ?_ _ | refine Later.drewN ?_ _ | refine Later.drew ?_ | refine Later.trans ?_ (Hid.out (by assumption))))⟩
      · dsimp only at hkk h1 hk
        subst hkk
        have hK := Lib.hid hk
        have a1 := as1_1; have a3 := as1_3; have a4 := as1_4
        clear hk
        go_enter Try.func119, Try.ntmps119
        go_wp2_with (first
      | (go_at_call 111; refine (i_kindOf _ hK.out _).mono ?_; rintro e w' ⟨rfl, rfl⟩; generalize hq : kndV _ = V; obtain rfl : V = .iface 145 (.agg #[]) := hq.symm.trans (by simp [kndV]); clear hq)
      | (go_at_call 97; refine (i_IsSegment ⟨1, l, r, a, b, c, d⟩ _).mono ?_; rintro e w1 ⟨rfl, hb⟩; obtain ⟨H, hcc, hff, hzz⟩ := later_facts hb; clear hb; (try simp at hzz); have hz0 : w.heap.size < w1.heap.size := (by omega)))
        go_ret
        exact ⟨ret_b (by unfold hldB; rw [h1]; simp), (by repeat (first | exact Later.refl _ | refine Later.alloc ?_ _ | refine Later.drewN ?_ _ | refine Later.drew ?_ | refine Later.trans ?_ (Hid.out (by assumption))))⟩
      · dsimp only at hkk h1 hk
        subst hkk
        have hK := Lib.hid hk
        have a1 := as2_1; have a3 := as2_3; have a4 := as2_4
        clear hk
        go_enter Try.func119, Try.ntmps119
        go_wp2_with (first
      | (go_at_call 111; refine (i_kindOf _ hK.out _).mono ?_; rintro e w' ⟨rfl, rfl⟩; generalize hq : kndV _ = V; obtain rfl : V = .iface 146 (.agg #[]) := hq.symm.trans (by simp [kndV]); clear hq)
      | (go_at_call 97; refine (i_IsSegment ⟨2, l, r, a, b, c, d⟩ _).mono ?_; rintro e w1 ⟨rfl, hb⟩; obtain ⟨H, hcc, hff, hzz⟩ := later_facts hb; clear hb; (try simp at hzz); have hz0 : w.heap.size < w1.heap.size := (by omega)))
        go_ret
        exact ⟨ret_b (by unfold hldB; rw [h1]; simp), (by repeat (first | exact Later.refl _ | refine Later.alloc ?_ _ | refine Later.drewN ?_ _ | refine Later.drew ?_ | refine Later.trans ?_ (Hid.out (by assumption))))⟩
      · dsimp only at hkk h1 hk
        subst hkk
        have hK := Lib.hid hk
        have a1 := as3_1; have a3 := as3_3; have a4 := as3_4
        clear hk
        go_enter Try.func119, Try.ntmps119
        go_wp2_with (first
      | (go_at_call 111; refine (i_kindOf _ hK.out _).mono ?_; rintro e w' ⟨rfl, rfl⟩; generalize hq : kndV _ = V; obtain rfl : V = .iface 147 (.agg #[]) := hq.symm.trans (by simp [kndV]); clear hq)
      | (go_at_call 97; refine (i_IsSegment ⟨3, l, r, a, b, c, d⟩ _).mono ?_; rintro e w1 ⟨rfl, hb⟩; obtain ⟨H, hcc, hff, hzz⟩ := later_facts hb; clear hb; (try simp at hzz); have hz0 : w.heap.size < w1.heap.size := (by omega)))
        go_ret
        exact ⟨ret_b (by unfold hldB; rw [h1]; simp), (by repeat (first | exact Later.refl _ | refine Later.alloc ?_ _ | refine Later.drewN ?_ _ | refine Later.drew ?_ | refine Later.trans ?_ (Hid.out (by assumption))))⟩
      · dsimp only at hkk h1 hk
        subst hkk
        have hK := Lib.hid hk
        have a1 := as4_1; have a3 := as4_3; have a4 := as4_4
        clear hk
        go_enter Try.func119, Try.ntmps119
        go_wp2_with (first
      | (go_at_call 111; refine (i_kindOf _ hK.out _).mono ?_; rintro e w' ⟨rfl, rfl⟩; generalize hq : kndV _ = V; obtain rfl : V = .iface 148 (.agg #[]) := hq.symm.trans (by simp [kndV]); clear hq)
      | (go_at_call 97; refine (i_IsSegment ⟨4, l, r, a, b, c, d⟩ _).mono ?_; rintro e w1 ⟨rfl, hb⟩; obtain ⟨H, hcc, hff, hzz⟩ := later_facts hb; clear hb; (try simp at hzz); have hz0 : w.heap.size < w1.heap.size := (by omega)))
        go_ret
        exact ⟨ret_b (by unfold hldB; rw [h1]; simp), (by repeat (first | exact Later.refl _ | refine Later.alloc ?_ _ | refine Later.drewN ?_ _ | refine Later.drew ?_ | refine Later.trans ?_ (Hid.out (by assumption))))⟩
  · have hk : kndB x.k = false := by simpa using hk
    have hK := Lib.hid hk
    clear hk
    go_enter Try.func119, Try.ntmps119
    go_wp2_with (go_at_call 111; refine (i_kindOf_no _ hK.out _).mono ?_; rintro e w' ⟨rfl, rfl⟩)
    go_ret
    exact ⟨ret_b (by unfold hldB sgB; rw [hK.out]; simp), (by repeat (first | exact Later.refl _ | refine Later.alloc ?_ _ | refine Later.drewN ?_ _ | refine Later.drew ?_ | refine Later.trans ?_ (Hid.out (by assumption))))⟩
end Go.Proofs.Ytnmlkigpiaekjaa
