/- The walk of the exact law on keywords (plain seat). -/
import Derived.Test.YtpeebgkgccacbaaTkK
namespace Go.Proofs.Ytpeebgkgccacbaa
open Go.RowKit
set_option maxHeartbeats 2000000
set_option linter.unusedVariables false
set_option linter.unusedSimpArgs false
theorem walk_FnExactIsKeyword (s : ByteArray) (w : World) (hml : s.size ≤ maxLen) :
    Calls Try.prog 4 #[.string s] w fun e w' => e = .returned (.bool true) ∧ Below w.heap.size w w' := by
  clear hml
  by_cases hs : 1048576 < s.size
  · have e1 : decide ((1048576 : Int) < s.size) = true := by simp; omega
    go_enter Try.func4, Try.ntmps4
    go_wp2_with fail
    go_ret
    exact ⟨rfl, (show Later w _ from by first | exact Later.refl _ | exact (Later.refl _).drew)⟩
  · have e1 : decide ((1048576 : Int) < s.size) = false := by simp; omega
    clear hs
    have S := Lib.hid (fun W => s_IsKeyword s W)
    have I := Lib.hid (fun W => i_IsKeyword s W)
    obtain ⟨b, hb⟩ : ∃ b, b = kwB s.data.toList := ⟨_, rfl⟩
    rw [← hb] at S I
    clear hb
    go_enter Try.func4, Try.ntmps4
    go_wp2_with fail
    refine (S.out _).mono ?_
    rintro e w1 ⟨rfl, hb⟩
    have B1 := Lib.hid (show Later w w1 from hb)
    clear hb
    go_wp2_with fail
    refine (I.out _).mono ?_
    rintro e w2 ⟨rfl, rfl⟩
    go_wp2_with fail
    go_ret
    exact ⟨rfl, B1.out⟩
end Go.Proofs.Ytpeebgkgccacbaa
