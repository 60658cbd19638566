/- Contracts of chapter 11: faults, of the program. -/
import Derived.Test.YtpeebgkgccacbaaTfJ
import Derived.Test.YtpeebgkgccacbaaIkL
namespace Go.Proofs.Ytpeebgkgccacbaa
open Go.RowKit
set_option maxHeartbeats 4000000
set_option linter.unusedVariables false
set_option linter.unusedSimpArgs false
theorem i_isReported (v : Int) (w : World) : Calls Try.prog 48 #[.int .i64 v] w fun e w' => e = .returned (.bool (ikR v)) ∧ w = w' := by
  go_enter Try.func48, Try.ntmps48
  go_wp2_with fail
  all_goals
    go_ret
    exact ⟨ret_b (by unfold ikR; first | (simp_all; done) | (simp_all; omega)), rfl⟩
theorem Wd.take3 {w : World} {a : Option Addr} {n : Nat} {l : List Int} (h : Wd w a n 3 l) (k : Nat) (hk : k ≤ n) : Wd w a k 3 (l.take (k * 3)) := by
  obtain ⟨h1, h2, h3, h4⟩ := h
  refine ⟨by rw [List.length_take]; omega, by omega, fun j hj => ?_, fun x hx => h4 x (List.mem_of_mem_take hx)⟩
  obtain ⟨b, off, e, hc⟩ := h3 j (by omega)
  refine ⟨b, off, e, ?_⟩
  rw [hc, gx_of l j (by omega), gx_of (l.take (k * 3)) j (by rw [List.length_take]; omega)]
  simp
theorem ikS_take {l : List Int} {k n : Nat} (hl : l.length = n * 3) (hk : k ≤ n) (b c : Int) : ikS (l.take (k * 3)) k b c = ikS l k b c := by
  rw [Bool.eq_iff_iff, ikS_iff, ikS_iff]
  have key : ∀ j, j < k * 3 → gx (l.take (k * 3)) j = gx l j := fun j hj => by
    rw [gx_of l j (by omega), gx_of (l.take (k * 3)) j (by rw [List.length_take]; omega)]; simp
  constructor
  · rintro ⟨j, hj, h1, h2⟩
    exact ⟨j, hj, by unfold ikb at *; rw [← key _ (by omega)]; exact h1, by unfold ikc at *; rw [← key _ (by omega)]; exact h2⟩
  · rintro ⟨j, hj, h1, h2⟩
    exact ⟨j, hj, by unfold ikb at *; rw [key _ (by omega)]; exact h1, by unfold ikc at *; rw [key _ (by omega)]; exact h2⟩
end Go.Proofs.Ytpeebgkgccacbaa
