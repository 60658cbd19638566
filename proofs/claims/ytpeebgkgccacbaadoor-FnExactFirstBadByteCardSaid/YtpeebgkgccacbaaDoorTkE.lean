/- The walk of the exact law on FirstBadByte. -/
import Derived.Test.YtpeebgkgccacbaaDoorTkR
import Derived.Test.YtpeebgkgccacbaaDoorTkD
namespace Go.Proofs.YtpeebgkgccacbaaDoor
open Go.RowKit Go.Shelf
set_option maxHeartbeats 4000000
set_option linter.unusedVariables false
set_option linter.unusedSimpArgs false
theorem walk_FnExactFirstBadByte (s : ByteArray) (hml : s.size ≤ maxLen) (w : World) (hx : Wst w ∧ MaxL w) :
    Calls Tryd.prog 6 #[.string s] w fun e w' => e = .returned (.bool true) ∧ Below w.heap.size w w' := by
  have HW := Lib.hid hx.1
  clear hx hml
  by_cases hs : 1048576 < s.size
  · have e1 : decide ((1048576 : Int) < s.size) = true := by simp; omega
    go_enter Tryd.func6, Tryd.ntmps6
    go_wp2_with fail
    go_ret
    exact ⟨rfl, by first | exact Later.refl _ | exact (Later.refl _).drew⟩
  · have hs2 : s.size ≤ 1048576 := by omega
    have e1 : decide ((1048576 : Int) < s.size) = false := by simp; omega
    clear hs
    have SF := Lib.hid (s_FirstBadByte s)
    have IF := Lib.hid (i_FirstBadByte s)
    obtain ⟨x, hx⟩ : ∃ x, x = fbV s.data.toList := ⟨_, rfl⟩
    obtain ⟨y, hy⟩ : ∃ x, x = fbE s.data.toList := ⟨_, rfl⟩
    rw [← hx, ← hy] at SF IF
    clear hx hy
    go_enter Tryd.func6, Tryd.ntmps6
    go_wp2_with (first | (go_at_call 26; refine (SF.out _ hs2).mono ?_; rintro e w1 ⟨rfl, hb⟩; have B1 := Lib.hid hb; clear hb) | (go_at_call 25; refine (IF.out _ hs2 (HW.out.later B1.out)).mono ?_; rintro e w2 ⟨rfl, hb⟩; have B2 := Lib.hid (Later.trans B1.out hb); clear hb))
    go_ret
    exact ⟨rfl, B2.out⟩
end Go.Proofs.YtpeebgkgccacbaaDoor
