/- Drawn values: whatever is drawn, it is an int64, and nothing that was there is touched. -/
import Derived.Test.YtpadigebbgcopaaFrom
namespace Go.Proofs.Ytpadigebbgcopaa
open Go.RowKit
set_option maxHeartbeats 2000000
set_option linter.unusedVariables false
set_option linter.unusedSimpArgs false
theorem sl_new (w : World) (l : List Int) (T : TypeId) (hn : l.length ≤ 9223372036854775807) (hr : ∀ x ∈ l, InR x) : Sl (w.alloc (.cells (l.map (Value.int .i64)).toArray T)) (some ⟨w.heap.size, 0, none⟩) l.length l := by
  refine ⟨rfl, hn, fun k hk => ⟨w.heap.size, 0, rfl, ?_⟩, hr⟩
  rw [Nat.zero_add, cell_of_row _ _ k _ T (0, 0) (heap_alloc_new w _)]
  simp [hk, gx_of l k hk]
theorem mul_bd (x y : Int) (h1 : -500000 ≤ x) (h2 : x ≤ 500000) (h3 : 0 ≤ y) (h4 : y ≤ 1000000) : -500000000000 ≤ x * y ∧ x * y ≤ 500000000000 := by
  have a : x * y ≤ 500000 * y := Int.mul_le_mul_of_nonneg_right h2 h3
  have b : -500000 * y ≤ x * y := Int.mul_le_mul_of_nonneg_right h1 h3
  omega
theorem s_DrawValue (B : Nat) (a : Option Addr) (len cap : Nat) (w : World) (hs : Src w B a len cap) :
    Calls Try.prog 55 #[.pointer (some ⟨B, 0, none⟩)] w (Drawn w B a len cap InR) := by
  have HS := Lib.hid hs
  clear hs
  go_enter Try.func55, Try.ntmps55
  go_wp2_with fail
  refine (s_Next B a len cap 16 w HS.out (by omega) (by omega)).mono ?_
  rintro e w1 ⟨r, rfl, r0, r1, r2, src, gr⟩
  have G1 := Lib.hid gr; have S1 := Lib.hid src
  have hr := r1 (by omega)
  clear gr src r1 r2
  by_cases c0 : r = 0
  · subst c0
    go_wp2_with fail
    have hl := sl_new w1 [1000000000000, 1000000000001, -1000000000000, -1000000000001, 9223372036854775807, -9223372036854775808] 2 (by simp) (by intro x hx; simp at hx; unfold InR; omega)
    refine (s_Pick B a len cap ⟨w1.heap.size, 0, none⟩ 6 6 _ _ (S1.out.alloc _) hl (by have := S1.out.lt; show w1.heap.size ≠ B; omega) (by omega)).mono ?_
    rintro e w2 ⟨x, rfl, hx, src, gr⟩
    have hx' : InR x := by simp at hx; unfold InR; omega
    have G2 := Lib.hid gr; have S2 := Lib.hid src; have HX := Lib.hid hx'
    clear gr src hx hx'
    go_wp2
    go_ret
    exact ⟨_, rfl, HX.out, S2.out, grown_trans G1.out (grown_trans (World.grownBy_alloc _ _ _) G2.out)⟩
  · have e0 : (r == 0) = false := by simpa using c0
    by_cases c1 : r = 1
    · subst c1
      go_wp2_with fail
      refine (s_Next B a len cap 1000000 _ S1.out (by omega) (by omega)).mono ?_
      rintro e w2 ⟨x, rfl, x0, x1, x2, src, gr⟩
      have G2 := Lib.hid gr; have S2 := Lib.hid src
      have hx := x1 (by omega)
      clear gr src x1 x2
      go_wp2_with fail
      refine (s_Next B a len cap 1000000 _ S2.out (by omega) (by omega)).mono ?_
      rintro e w3 ⟨y, rfl, y0, y1, y2, src, gr⟩
      have G3 := Lib.hid gr; have S3 := Lib.hid src
      have hy := y1 (by omega)
      clear gr src y1 y2
      obtain ⟨m1, m2⟩ := mul_bd (x - 500000) (1 + y) (by omega) (by omega) (by omega) (by omega)
      go_wp2
      go_ret
      exact ⟨_, rfl, ⟨by omega, by omega⟩, S3.out, grown_trans G1.out (grown_trans G2.out G3.out)⟩
    · have e1 : (r == 1) = false := by simpa using c1
      clear c0 c1
      go_wp2_with fail
      refine (s_Next B a len cap 4000 _ S1.out (by omega) (by omega)).mono ?_
      rintro e w2 ⟨x, rfl, x0, x1, x2, src, gr⟩
      have G2 := Lib.hid gr; have S2 := Lib.hid src
      have hx := x1 (by omega)
      clear gr src x1 x2
      go_wp2
      go_ret
      exact ⟨_, rfl, ⟨by omega, by omega⟩, S2.out, grown_trans G1.out G2.out⟩
def Two (w : World) (e : Ending) (w' : World) : Prop :=
  ∃ a b : Int, e = .returned (.tuple #[.int .i64 a, .int .i64 b]) ∧ InR a ∧ InR b ∧ Below w.heap.size w w'
def One (w : World) (e : Ending) (w' : World) : Prop :=
  ∃ a : Int, e = .returned (.int .i64 a) ∧ InR a ∧ Below w.heap.size w w'
theorem l_big (a : Option Addr) (len cap : Nat) (w : World) :
    Calls Try.prog 14 #[.slice a len cap] w fun e w' => e = .returned (.bool (decide (4096 < len))) ∧ w = w' := by
  go_enter Try.func14, Try.ntmps14
  go_wp2
  go_ret
  exact ⟨ret_b (by simp; omega), rfl⟩
end Go.Proofs.Ytpadigebbgcopaa
