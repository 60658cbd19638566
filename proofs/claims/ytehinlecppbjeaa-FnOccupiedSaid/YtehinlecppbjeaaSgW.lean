/- Contracts of chapter 3: beginnings of segments: the model's functions. -/
import Derived.Test.YtehinlecppbjeaaSgU
import Derived.Test.YtehinlecppbjeaaSgO
import Derived.WalkSmall
import Derived.Deep.DeepMust
namespace Go.Proofs.Ytehinlecppbjeaa
open Go.RowKit
set_option maxHeartbeats 2000000
set_option linter.unusedVariables false
set_option linter.unusedSimpArgs false
def ListIs (w : World) (l : List Int) (e : Ending) (w' : World) : Prop := ∃ v, e = .returned v ∧ Own w' w.heap.size v l ∧ Later w w'
theorem s_l03Starts (a : Option Addr) (n cap : Nat) (L : List Sg) (w : World) (hs : Sgs w a n L) (hv : layB L = true) :
    Calls Try.prog 129 #[.agg #[.slice a n cap]] w (ListIs w (strs L)) := by
  have HS := Lib.hid hs
  have HL := Lib.hid hs.1
  have HO := Lib.hid ((layB_iff L).1 hv).2.2.1
  have h24 := ((layB_iff L).1 hv).2.1
  rw [HL.out] at h24
  have HT : Hid (strs L = sFst L n) := Lib.hid (by unfold strs sFst; rw [hv, HL.out]; simp)
  clear hs hv
  go_enter Try.func129, Try.ntmps129
  go_wp2_with fail
  go_loopw [3, 4, 5] (fun v d i wr => ∃ k : Nat, k ≤ n ∧ i = .int .i64 k ∧ d = .int .i64 (upL L k) ∧ Own wr (w.heap.size + 1) v (sFst L k) ∧ wr.cell? ⟨w.heap.size, 0, none⟩ = some (.slice a n cap) ∧ w.heap.size < wr.heap.size ∧ Later w wr) (fun _ _ i _ => n - (intOf i).toNat)
  case atStart => exact ⟨0, by omega, rfl, by rw [upL_0], (by have h := own_new (w.alloc (.cells #[.slice a n cap] 26)) (w.heap.size + 1) (by rw [World.size_alloc]; exact Nat.le_refl _); rw [World.size_alloc] at h; exact h), (by simp), (by simp; omega), (by repeat (first | exact Later.refl _ | exact Hid.out (by assumption) | refine Later.set_at ?_ ?_ _ _ | refine Later.alloc ?_ _ | refine Later.drewN ?_ _ | refine Later.drew ?_ | refine Later.trans ?_ (Hid.out (by assumption))))⟩
  case round =>
    obtain ⟨k, hk, rfl, rfl, ho, cb, hsz, hlw⟩ := hrel
    have O3 := Lib.hid ho; have HW := Lib.hid hlw
    clear ho hlw
    by_cases hlt : k < n
    · obtain ⟨b', off', rfl, hb', hc⟩ := (HS.out.later HW.out).at k hlt
      obtain ⟨_, _, bd1, bd2⟩ := up_bd L k (by rw [HL.out]; exact hk) (okB_le L L.length k (by rw [HL.out]; exact hk) HO.out)
      have hr := (sgB_iff _).1 (okB_at L L.length k (Nat.le_refl _) (by rw [HL.out]; exact hlt) HO.out)
      have r1 := hr.2.1.1; have r2 := hr.2.1.2
      clear hr hc hb'
      go_wp2_with (at_builtin; go_must (refine app1 rfl _ _ rfl (w.heap.size + 1) _ _ _ _ _ O3.out rfl rfl ⟨by omega, by omega⟩ (by rw [sFst_len]; omega) (by omega) ?_; intro v' w5 ho hg; obtain ⟨W5, k5, z5⟩ := later_grown HW.out O3.out hg; have cb5 := k5 0 _ cb; have sz5 : w.heap.size < w5.heap.size := (by omega); have O5 := Lib.hid ho; obtain ⟨b5, off5, hbo, hb5, hc⟩ := (HS.out.later W5.out).at k hlt; simp only [Option.some.injEq, Addr.mk.injEq, and_true] at hbo; obtain ⟨rfl, rfl⟩ := hbo; obtain ⟨c0, c1, c2, c3, c4, c5, c6⟩ := hc; clear ho hg k5 cb))
      go_roundw
      case rel => exact ⟨k + 1, by omega, by go_num, by rw [upL_succ L k (by rw [HL.out]; exact hlt)], by rw [sFst_succ]; exact O5.out, cb5, sz5, W5.out⟩
      case measure => simp [intOf]; omega
    · obtain rfl : k = n := by omega
      go_wp2
      go_ret
      exact ⟨_, rfl, by rw [HT.out]; exact O3.out.mono (by omega), HW.out⟩
end Go.Proofs.Ytehinlecppbjeaa
