/- Marks that the exact laws write into layouts. -/
import Derived.Test.YtnmlkigpiaekjaaSgK
import Derived.Test.YtnmlkigpiaekjaaGrown
namespace Go.Proofs.Ytnmlkigpiaekjaa
open Go.RowKit
set_option maxHeartbeats 2000000
set_option linter.unusedVariables false
set_option linter.unusedSimpArgs false
/-- the numbers of a row, of which those of the first k segments are marked -/
def mrkS (f : Nat → Int) (k j : Nat) : Int := if j < k * 7 then 1 + (j : Int) else f j
def MarkedS (w : World) (g n : Nat) (f : Nat → Int) (e : Ending) (w' : World) : Prop :=
  e = .returned (.int .i64 (1 + 7 * (n : Int))) ∧ SgRow w' g n (mrkS f n) ∧ w.grownBy w' (some g)
theorem grown_refl (w : World) (r : Option Nat) : w.grownBy w r := ⟨rfl, rfl, rfl, Nat.le_refl _, fun _ _ _ => rfl⟩
theorem grown_set1 {a b : World} {g : Nat} (h : a.grownBy b (some g)) (j : Nat) (u : Value) : a.grownBy (b.setCell ⟨g, j, none⟩ u) (some g) := grown_trans h (grown_set b g j u)
set_option maxRecDepth 100000 in
theorem l_markSegmentS (g n cap : Nat) (f : Nat → Int) (w : World) (hr : SgRow w g n f) (hn : n ≤ 1048576) :
    Calls Try.prog 54 #[.slice (some ⟨g, 0, none⟩) n cap, .int .i64 1] w (MarkedS w g n f) := by
  have HR := Lib.hid hr
  clear hr
  go_enter Try.func54, Try.ntmps54
  go_wp2
  go_loopw [1, 5] (fun m i wr => ∃ k : Nat, k ≤ n ∧ i = .int .i64 k ∧ m = .int .i64 (1 + 7 * (k : Int)) ∧ SgRow wr g n (mrkS f k) ∧ w.grownBy wr (some g)) (fun _ i _ => n - (intOf i).toNat)
  case atStart => exact ⟨0, by omega, rfl, rfl, HR.out.congr (fun j hj => by unfold mrkS; rw [if_neg (by omega)]), grown_refl _ _⟩
  case round =>
    clear HR
    obtain ⟨k, hk, rfl, rfl, ho, hg⟩ := hrel
    have HR := Lib.hid ho; have HG := Lib.hid hg
    clear ho hg
    by_cases hlt : k < n
    · obtain ⟨u0, u1, u2, u3, u4, u5, u6, z0, z1, z2, z3, z4, z5, z6, g0, g1, g2, g3, g4, g5, g6⟩ := HR.out.seven' k hlt
      go_wp2
      go_roundw
      case rel =>
        refine ⟨k + 1, by omega, by go_num, by go_num, HR.out.put7 k _ _ _ _ _ _ _ ?_, ?_⟩
        · intro j hj
          unfold mrkS
          by_cases h1 : j < k * 7
          · rw [if_pos (by omega), if_neg (by omega), if_neg (by omega), if_neg (by omega), if_neg (by omega), if_neg (by omega), if_neg (by omega), if_neg (by omega), if_pos h1]
          · by_cases h2 : j < (k + 1) * 7
            · rw [if_pos h2]
              obtain ⟨i, rfl⟩ : ∃ i, j = k * 7 + i := ⟨j - k * 7, by omega⟩
              have hi' : i = 0 ∨ i = 1 ∨ i = 2 ∨ i = 3 ∨ i = 4 ∨ i = 5 ∨ i = 6 := by omega
              rcases hi' with rfl | rfl | rfl | rfl | rfl | rfl | rfl <;> simp <;> omega
            · rw [if_neg h2, if_neg (by omega), if_neg (by omega), if_neg (by omega), if_neg (by omega), if_neg (by omega), if_neg (by omega), if_neg (by omega), if_neg h1]
        · exact grown_set1 (grown_set1 (grown_set1 (grown_set1 (grown_set1 (grown_set1 (grown_set1 HG.out _ _) _ _) _ _) _ _) _ _) _ _) _ _
      case measure => simp [intOf]; omega
    · obtain rfl : k = n := by omega
      go_wp2
      go_ret
      exact ⟨rfl, HR.out, HG.out⟩
def MarkedL (w : World) (g n : Nat) (f : Nat → Int) (e : Ending) (w' : World) : Prop :=
  e = .returned (.int .i64 (1 + 7 * (n : Int))) ∧ SgRow w' g n (mrkS f n) ∧ w.grownBy w' (some g)
theorem l_markLayout (g n cap : Nat) (f : Nat → Int) (w : World) (hr : SgRow w g n f) (hn : n ≤ 1048576) :
    Calls Try.prog 24 #[.agg #[.slice (some ⟨g, 0, none⟩) n cap], .int .i64 1] w (MarkedL w g n f) := by
  have HR := Lib.hid (hr.later ((Later.refl _).alloc (.cells #[.slice (some ⟨g, 0, none⟩) n cap] 26)))
  clear hr
  go_enter Try.func24, Try.ntmps24
  go_wp2_with fail
  refine (l_markSegmentS g n cap f _ HR.out hn).mono ?_
  rintro e w1 ⟨rfl, hr, hg⟩
  have R1 := Lib.hid hr
  have G1 := Lib.hid (grown_trans (World.grownBy_alloc w _ (some g)) hg)
  clear hr hg
  go_wp2
  go_ret
  exact ⟨rfl, R1.out, G1.out⟩
end Go.Proofs.Ytnmlkigpiaekjaa
