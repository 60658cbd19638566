/- Contracts of chapter 3: segments that are valid, segments that hold: the program's functions. -/
import Derived.Test.YtnmlkigpiaekjaaSg0
namespace Go.Proofs.Ytnmlkigpiaekjaa
open Go.RowKit
set_option maxHeartbeats 2000000
set_option linter.unusedVariables false
set_option linter.unusedSimpArgs false
/-! what a type assertion on a kind gives -/
theorem as0_1 (W : World) : (Instr.typeAssert (.iface 144 (.agg #[])) 137 145 true).run Try.prog W = .ok (.tuple #[.agg #[], .bool false]) W := by kernel_rfl
theorem as1_1 (W : World) : (Instr.typeAssert (.iface 145 (.agg #[])) 137 145 true).run Try.prog W = .ok (.tuple #[.agg #[], .bool true]) W := by kernel_rfl
theorem as2_1 (W : World) : (Instr.typeAssert (.iface 146 (.agg #[])) 137 145 true).run Try.prog W = .ok (.tuple #[.agg #[], .bool false]) W := by kernel_rfl
theorem as3_1 (W : World) : (Instr.typeAssert (.iface 147 (.agg #[])) 137 145 true).run Try.prog W = .ok (.tuple #[.agg #[], .bool false]) W := by kernel_rfl
theorem as4_1 (W : World) : (Instr.typeAssert (.iface 148 (.agg #[])) 137 145 true).run Try.prog W = .ok (.tuple #[.agg #[], .bool false]) W := by kernel_rfl
theorem as0_3 (W : World) : (Instr.typeAssert (.iface 144 (.agg #[])) 137 147 true).run Try.prog W = .ok (.tuple #[.agg #[], .bool false]) W := by kernel_rfl
theorem as1_3 (W : World) : (Instr.typeAssert (.iface 145 (.agg #[])) 137 147 true).run Try.prog W = .ok (.tuple #[.agg #[], .bool false]) W := by kernel_rfl
theorem as2_3 (W : World) : (Instr.typeAssert (.iface 146 (.agg #[])) 137 147 true).run Try.prog W = .ok (.tuple #[.agg #[], .bool false]) W := by kernel_rfl
theorem as3_3 (W : World) : (Instr.typeAssert (.iface 147 (.agg #[])) 137 147 true).run Try.prog W = .ok (.tuple #[.agg #[], .bool true]) W := by kernel_rfl
theorem as4_3 (W : World) : (Instr.typeAssert (.iface 148 (.agg #[])) 137 147 true).run Try.prog W = .ok (.tuple #[.agg #[], .bool false]) W := by kernel_rfl
theorem as0_4 (W : World) : (Instr.typeAssert (.iface 144 (.agg #[])) 137 148 true).run Try.prog W = .ok (.tuple #[.agg #[], .bool false]) W := by kernel_rfl
theorem as1_4 (W : World) : (Instr.typeAssert (.iface 145 (.agg #[])) 137 148 true).run Try.prog W = .ok (.tuple #[.agg #[], .bool false]) W := by kernel_rfl
theorem as2_4 (W : World) : (Instr.typeAssert (.iface 146 (.agg #[])) 137 148 true).run Try.prog W = .ok (.tuple #[.agg #[], .bool false]) W := by kernel_rfl
theorem as3_4 (W : World) : (Instr.typeAssert (.iface 147 (.agg #[])) 137 148 true).run Try.prog W = .ok (.tuple #[.agg #[], .bool false]) W := by kernel_rfl
theorem as4_4 (W : World) : (Instr.typeAssert (.iface 148 (.agg #[])) 137 148 true).run Try.prog W = .ok (.tuple #[.agg #[], .bool true]) W := by kernel_rfl
theorem i_IsSegment (x : Sg) (w : World) : Calls Try.prog 97 #[.agg #[.int .i64 x.k, .int .i64 x.l, .int .i64 x.r, .int .i64 x.a, .int .i64 x.b, .int .i64 x.c, .int .i64 x.d]] w fun e w' => e = .returned (.bool (sgB x)) ∧ Later w w' := by
  by_cases hk : kndB x.k = true
  · have hK := Lib.hid hk
    have S0 : Hid (sgB x = (lenB x.l && slpB x.r x.l && rngB 0 x.a x.b && frcB x.k x.c x.d)) := Lib.hid (by unfold sgB; rw [hk]; simp)
    clear hk
    by_cases h1 : 1 ≤ x.l
    · by_cases h2 : x.l ≤ 200000
      · have e1 : Hid (lenB x.l = true) := Lib.hid (by unfold lenB; simp; omega)
        cases h3 : slpB x.r x.l
        · go_enter Try.func97, Try.ntmps97
          go_wp2_with (first
      | (go_at_call 111; refine (i_kindOf _ hK.out _).mono ?_; rintro e w' ⟨rfl, rfl⟩)
      | (go_at_call 112; refine (i_isSlope _ _ _).mono ?_; rintro e w' ⟨rfl, rfl⟩)
      | (go_at_call 74; refine (i_Within _ _ _ (by omega) (by omega) _).mono ?_; rintro e w1 ⟨rfl, hb⟩; obtain ⟨H, hcc, hff, hzz⟩ := later_facts hb; clear hb; (try simp at hzz); have hz0 : w.heap.size < w1.heap.size := (by omega))
      | (go_at_call 113; refine (i_suits _ _ _ hK.out _).mono ?_; rintro e w1 ⟨rfl, hb⟩; obtain ⟨H, hcc, hff, hzz⟩ := later_facts hb; clear hb; (try simp at hzz); have hz0 : w.heap.size < w1.heap.size := (by omega)))
          go_ret
          exact ⟨ret_b (by rw [S0.out, e1.out, h3]; simp), (by repeat (first | exact Later.refl _ | refine Later.alloc ?_ _ | refine Later.drewN ?_ _ | refine Later.drew ?_ | refine Later.trans ?_ (Hid.out (by assumption))))⟩
        · cases h4 : rngB 0 x.a x.b
          · go_enter Try.func97, Try.ntmps97
            go_wp2_with (first
      | (go_at_call 111; refine (i_kindOf _ hK.out _).mono ?_; rintro e w' ⟨rfl, rfl⟩)
      | (go_at_call 112; refine (i_isSlope _ _ _).mono ?_; rintro e w' ⟨rfl, rfl⟩)
      | (go_at_call 74; refine (i_Within _ _ _ (by omega) (by omega) _).mono ?_; rintro e w1 ⟨rfl, hb⟩; obtain ⟨H, hcc, hff, hzz⟩ := later_facts hb; clear hb; (try simp at hzz); have hz0 : w.heap.size < w1.heap.size := (by omega))
      | (go_at_call 113; refine (i_suits _ _ _ hK.out _).mono ?_; rintro e w1 ⟨rfl, hb⟩; obtain ⟨H, hcc, hff, hzz⟩ := later_facts hb; clear hb; (try simp at hzz); have hz0 : w.heap.size < w1.heap.size := (by omega)))
            go_ret
            exact ⟨ret_b (by rw [S0.out, e1.out, h3, h4]; simp), (by repeat (first | exact Later.refl _ | refine Later.alloc ?_ _ | refine Later.drewN ?_ _ | refine Later.drew ?_ | refine Later.trans ?_ (Hid.out (by assumption))))⟩
          · go_enter Try.func97, Try.ntmps97
            go_wp2_with (first
      | (go_at_call 111; refine (i_kindOf _ hK.out _).mono ?_; rintro e w' ⟨rfl, rfl⟩)
      | (go_at_call 112; refine (i_isSlope _ _ _).mono ?_; rintro e w' ⟨rfl, rfl⟩)
      | (go_at_call 74; refine (i_Within _ _ _ (by omega) (by omega) _).mono ?_; rintro e w1 ⟨rfl, hb⟩; obtain ⟨H, hcc, hff, hzz⟩ := later_facts hb; clear hb; (try simp at hzz); have hz0 : w.heap.size < w1.heap.size := (by omega))
      | (go_at_call 113; refine (i_suits _ _ _ hK.out _).mono ?_; rintro e w1 ⟨rfl, hb⟩; obtain ⟨H, hcc, hff, hzz⟩ := later_facts hb; clear hb; (try simp at hzz); have hz0 : w.heap.size < w1.heap.size := (by omega)))
            go_ret
            exact ⟨ret_b (by rw [S0.out, e1.out, h3, h4]; simp), (by repeat (first | exact Later.refl _ | refine Later.alloc ?_ _ | refine Later.drewN ?_ _ | refine Later.drew ?_ | refine Later.trans ?_ (Hid.out (by assumption))))⟩
      · go_enter Try.func97, Try.ntmps97
        go_wp2_with (first
      | (go_at_call 111; refine (i_kindOf _ hK.out _).mono ?_; rintro e w' ⟨rfl, rfl⟩)
      | (go_at_call 112; refine (i_isSlope _ _ _).mono ?_; rintro e w' ⟨rfl, rfl⟩)
      | (go_at_call 74; refine (i_Within _ _ _ (by omega) (by omega) _).mono ?_; rintro e w1 ⟨rfl, hb⟩; obtain ⟨H, hcc, hff, hzz⟩ := later_facts hb; clear hb; (try simp at hzz); have hz0 : w.heap.size < w1.heap.size := (by omega))
      | (go_at_call 113; refine (i_suits _ _ _ hK.out _).mono ?_; rintro e w1 ⟨rfl, hb⟩; obtain ⟨H, hcc, hff, hzz⟩ := later_facts hb; clear hb; (try simp at hzz); have hz0 : w.heap.size < w1.heap.size := (by omega)))
        go_ret
        exact ⟨ret_b (by rw [S0.out]; unfold lenB; simp [h2]; intros; omega), (by repeat (first | exact Later.refl _ | refine Later.alloc ?_ _ | refine Later.drewN ?_ _ | refine Later.drew ?_ | refine Later.trans ?_ (Hid.out (by assumption))))⟩
    · go_enter Try.func97, Try.ntmps97
      go_wp2_with (first
      | (go_at_call 111; refine (i_kindOf _ hK.out _).mono ?_; rintro e w' ⟨rfl, rfl⟩)
      | (go_at_call 112; refine (i_isSlope _ _ _).mono ?_; rintro e w' ⟨rfl, rfl⟩)
      | (go_at_call 74; refine (i_Within _ _ _ (by omega) (by omega) _).mono ?_; rintro e w1 ⟨rfl, hb⟩; obtain ⟨H, hcc, hff, hzz⟩ := later_facts hb; clear hb; (try simp at hzz); have hz0 : w.heap.size < w1.heap.size := (by omega))
      | (go_at_call 113; refine (i_suits _ _ _ hK.out _).mono ?_; rintro e w1 ⟨rfl, hb⟩; obtain ⟨H, hcc, hff, hzz⟩ := later_facts hb; clear hb; (try simp at hzz); have hz0 : w.heap.size < w1.heap.size := (by omega)))
      go_ret
      exact ⟨ret_b (by rw [S0.out]; unfold lenB; simp [h1]; intros; omega), (by repeat (first | exact Later.refl _ | refine Later.alloc ?_ _ | refine Later.drewN ?_ _ | refine Later.drew ?_ | refine Later.trans ?_ (Hid.out (by assumption))))⟩
  · have hk : kndB x.k = false := by simpa using hk
    have hK := Lib.hid hk
    clear hk
    go_enter Try.func97, Try.ntmps97
    go_wp2_with (go_at_call 111; refine (i_kindOf_no _ hK.out _).mono ?_; rintro e w' ⟨rfl, rfl⟩)
    go_ret
    exact ⟨ret_b (by unfold sgB; rw [hK.out]; simp), (by repeat (first | exact Later.refl _ | refine Later.alloc ?_ _ | refine Later.drewN ?_ _ | refine Later.drew ?_ | refine Later.trans ?_ (Hid.out (by assumption))))⟩
end Go.Proofs.Ytnmlkigpiaekjaa
