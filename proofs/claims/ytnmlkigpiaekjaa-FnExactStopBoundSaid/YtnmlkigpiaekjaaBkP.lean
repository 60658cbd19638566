/- Contracts of chapter 4: what is asked of a block. -/
import Derived.Test.YtnmlkigpiaekjaaBkQ
namespace Go.Proofs.Ytnmlkigpiaekjaa
open Go.RowKit
set_option maxHeartbeats 2000000
set_option linter.unusedVariables false
set_option linter.unusedSimpArgs false
/-- as the program asks it: its sum may wrap -/
def hasW (p : Int) (x : Sc) : Bool := decide (x.s ≤ p) && decide (p < wrap64 (x.s + x.e))
theorem c_isNo (x : Sc) (s : Int) (B : Nat) (w : World) (hc : w.cell? ⟨B, 0, none⟩ = some (.int .i64 s)) :
    Calls Try.prog 89 #[scV x, .pointer (some ⟨B, 0, none⟩)] w fun e w' => e = .returned (.bool (isNo s x)) ∧ Later w w' := by
  have hb := cell_lt hc
  unfold scV
  cases h : (x.n == s)
  all_goals
    have H : Hid (isNo s x = _) := Lib.hid h
    go_enter Try.func89, Try.ntmps89
    go_wp2
    go_ret
    exact ⟨ret_b (by rw [H.out]), (by repeat (first | (with_reducible exact Later.refl _) | (with_reducible exact Hid.out (by assumption)) | (with_reducible refine Later.alloc ?_ _) | (with_reducible refine Later.setCell ?_ (by simp; omega) _) | (with_reducible refine Later.setCell ?_ (by simp) _) | (with_reducible refine Later.drewN ?_ _) | (with_reducible refine Later.drew ?_) | (with_reducible refine Later.trans ?_ (Hid.out (by assumption)))))⟩
end Go.Proofs.Ytnmlkigpiaekjaa
