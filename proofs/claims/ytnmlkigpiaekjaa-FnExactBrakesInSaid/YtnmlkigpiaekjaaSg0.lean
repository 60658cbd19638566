/- Contracts of chapter 3: kinds, slopes, forces, segments, of the program. -/
import Derived.Test.YtnmlkigpiaekjaaIvN
import Derived.Test.YtnmlkigpiaekjaaSgM
namespace Go.Proofs.Ytnmlkigpiaekjaa
open Go.RowKit
set_option maxHeartbeats 2000000
set_option linter.unusedVariables false
set_option linter.unusedSimpArgs false
/-- the value that a kind of segments is -/
def kndV (k : Int) : Value :=
  if k = 0 then .iface 144 (.agg #[]) else if k = 1 then .iface 145 (.agg #[]) else if k = 2 then .iface 146 (.agg #[]) else if k = 3 then .iface 147 (.agg #[]) else .iface 148 (.agg #[])
theorem kinds {k : Int} (h : kndB k = true) : k = 0 ∨ k = 1 ∨ k = 2 ∨ k = 3 ∨ k = 4 := by
  unfold kndB at h; simp at h; omega
theorem i_kindOf (k : Int) (h : kndB k = true) (w : World) : Calls Try.prog 111 #[.int .i64 k] w fun e w' => e = .returned (.tuple #[kndV k, .bool true]) ∧ w = w' := by
  rcases kinds h with rfl | rfl | rfl | rfl | rfl
  all_goals
    go_enter Try.func111, Try.ntmps111
    go_wp2
    go_ret2
    exact ⟨rfl, rfl⟩
theorem i_kindOf_no (k : Int) (h : kndB k = false) (w : World) : Calls Try.prog 111 #[.int .i64 k] w fun e w' => e = .returned (.tuple #[.nilIface, .bool false]) ∧ w = w' := by
  have e0 : (k == 0) = false := by unfold kndB at h; simp at h ⊢; omega
  have e1 : (k == 1) = false := by unfold kndB at h; simp at h ⊢; omega
  have e2 : (k == 2) = false := by unfold kndB at h; simp at h ⊢; omega
  have e3 : (k == 3) = false := by unfold kndB at h; simp at h ⊢; omega
  have e4 : (k == 4) = false := by unfold kndB at h; simp at h ⊢; omega
  clear h
  go_enter Try.func111, Try.ntmps111
  go_wp2
  go_ret2
  exact ⟨rfl, rfl⟩
theorem i_isSlope (r l : Int) (w : World) : Calls Try.prog 112 #[.int .i64 r, .int .i64 l] w fun e w' => e = .returned (.bool (slpB r l)) ∧ w = w' := by
  go_enter Try.func112, Try.ntmps112
  go_wp2
  all_goals
    go_ret
    exact ⟨ret_b (by unfold slpB; first | (simp_all; done) | (simp_all; omega)), rfl⟩
theorem win_rng (n a b : Int) (h0 : 0 ≤ n) (h1 : n ≤ 20000) : winB (ivB a b && ivB n 20000) a b n 20000 = rngB n a b := by
  have e : ivB n 20000 = true := by rw [ivB_iff]; omega
  rw [e, Bool.and_true, Bool.eq_iff_iff]
  unfold winB rngB
  simp [ivB_iff]
  omega
theorem i_Within (n a b : Int) (h0 : 0 ≤ n) (h1 : n ≤ 20000) (w : World) :
    Calls Try.prog 74 #[.agg #[.int .i64 a, .int .i64 b], .agg #[.int .i64 n, .int .i64 20000]] w fun e w' => e = .returned (.bool (rngB n a b)) ∧ Later w w' := by
  rw [← win_rng n a b h0 h1]
  exact i_IsWithin a b n 20000 w
/-! what a type assertion on a kind gives -/
theorem as0_0 (W : World) : (Instr.typeAssert (.iface 144 (.agg #[])) 137 144 true).run Try.prog W = .ok (.tuple #[.agg #[], .bool true]) W := by kernel_rfl
theorem as1_0 (W : World) : (Instr.typeAssert (.iface 145 (.agg #[])) 137 144 true).run Try.prog W = .ok (.tuple #[.agg #[], .bool false]) W := by kernel_rfl
theorem as2_0 (W : World) : (Instr.typeAssert (.iface 146 (.agg #[])) 137 144 true).run Try.prog W = .ok (.tuple #[.agg #[], .bool false]) W := by kernel_rfl
theorem as3_0 (W : World) : (Instr.typeAssert (.iface 147 (.agg #[])) 137 144 true).run Try.prog W = .ok (.tuple #[.agg #[], .bool false]) W := by kernel_rfl
theorem as4_0 (W : World) : (Instr.typeAssert (.iface 148 (.agg #[])) 137 144 true).run Try.prog W = .ok (.tuple #[.agg #[], .bool false]) W := by kernel_rfl
theorem i_suits (k c d : Int) (h : kndB k = true) (w : World) :
    Calls Try.prog 113 #[kndV k, .agg #[.int .i64 c, .int .i64 d]] w fun e w' => e = .returned (.bool (frcB k c d)) ∧ Later w w' := by
  rcases kinds h with rfl | rfl | rfl | rfl | rfl
  · have ha := as0_0
    generalize hk : kndV 0 = V
    obtain rfl : V = .iface 144 (.agg #[]) := hk.symm.trans (by simp [kndV])
    clear hk h
    go_enter Try.func113, Try.ntmps113
    go_wp2
    all_goals
      go_ret
      exact ⟨ret_b (by unfold frcB; simp_all), (Later.refl _).alloc _⟩
  · have ha := as1_0
    generalize hk : kndV 1 = V
    obtain rfl : V = .iface 145 (.agg #[]) := hk.symm.trans (by simp [kndV])
    clear hk h
    go_enter Try.func113, Try.ntmps113
    go_wp2_with (go_at_call 74; refine (i_Within _ _ _ (by omega) (by omega) _).mono ?_; rintro e w1 ⟨rfl, hb⟩; have H := Lib.hid hb; clear hb)
    go_ret
    exact ⟨rfl, ((Later.refl _).alloc _).trans H.out⟩
  · have ha := as2_0
    generalize hk : kndV 2 = V
    obtain rfl : V = .iface 146 (.agg #[]) := hk.symm.trans (by simp [kndV])
    clear hk h
    go_enter Try.func113, Try.ntmps113
    go_wp2_with (go_at_call 74; refine (i_Within _ _ _ (by omega) (by omega) _).mono ?_; rintro e w1 ⟨rfl, hb⟩; have H := Lib.hid hb; clear hb)
    go_ret
    exact ⟨rfl, ((Later.refl _).alloc _).trans H.out⟩
  · have ha := as3_0
    generalize hk : kndV 3 = V
    obtain rfl : V = .iface 147 (.agg #[]) := hk.symm.trans (by simp [kndV])
    clear hk h
    go_enter Try.func113, Try.ntmps113
    go_wp2_with (go_at_call 74; refine (i_Within _ _ _ (by omega) (by omega) _).mono ?_; rintro e w1 ⟨rfl, hb⟩; have H := Lib.hid hb; clear hb)
    go_ret
    exact ⟨rfl, ((Later.refl _).alloc _).trans H.out⟩
  · have ha := as4_0
    generalize hk : kndV 4 = V
    obtain rfl : V = .iface 148 (.agg #[]) := hk.symm.trans (by simp [kndV])
    clear hk h
    go_enter Try.func113, Try.ntmps113
    go_wp2_with (go_at_call 74; refine (i_Within _ _ _ (by omega) (by omega) _).mono ?_; rintro e w1 ⟨rfl, hb⟩; have H := Lib.hid hb; clear hb)
    go_ret
    exact ⟨rfl, ((Later.refl _).alloc _).trans H.out⟩
end Go.Proofs.Ytnmlkigpiaekjaa
