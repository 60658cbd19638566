/- The walks of the exact laws of chapter 1: roots, sums, rising lists. -/
import Derived.Test.YtkkhmlnneijmgaaRoot
import Derived.Test.YtkkhmlnneijmgaaMem
import Derived.RowKit3
import Derived.WalkSmall
namespace Go.Proofs.Ytkkhmlnneijmgaa
open Go.RowKit
set_option maxHeartbeats 400000
set_option linter.unusedVariables false
set_option linter.unusedSimpArgs false
theorem walk_FnExactRootDown (a0 : Int) (w0 : (Lit.int .i64 a0).wf = true) (w : World) :
    Calls Try.prog 8 #[.int .i64 a0] w fun e w' => e = .returned (.bool true) ∧ Grown w w' := by
  go_enter Try.func8, Try.ntmps8
  go_wp2_with (first | (go_at_call 20; refine (s_RootDown _ _).mono ?_; rintro e w' ⟨rfl, rfl⟩) | (go_at_call 18; refine (i_RootDown _ _).mono ?_; rintro e w' ⟨rfl, rfl⟩))
  go_ret
  exact ⟨rfl, Grown.refl _⟩
theorem walk_FnExactRootUp (a0 : Int) (w0 : (Lit.int .i64 a0).wf = true) (w : World) :
    Calls Try.prog 9 #[.int .i64 a0] w fun e w' => e = .returned (.bool true) ∧ Grown w w' := by
  go_enter Try.func9, Try.ntmps9
  go_wp2_with (first | (go_at_call 28; refine (s_RootUp _ _).mono ?_; rintro e w' ⟨rfl, rfl⟩) | (go_at_call 19; refine (i_RootUp _ _).mono ?_; rintro e w' ⟨rfl, rfl⟩))
  go_ret
  exact ⟨rfl, Grown.refl _⟩
/-- a slice of integers that came in, as the shell of a proof says it -/
def IsRow (k : IntKind) (w : World) (a : Option Addr) (len cap : Nat) (zs : List Int) : Prop :=
  (a = none ∧ len = 0 ∧ cap = 0 ∧ zs = []) ∨
  ∃ x, a = some x ∧ len ≤ cap ∧ cap ≤ maxLen ∧ zs.length = cap ∧ (∀ i, i < zs.length → w.cell? (x.add i) = some (.int k (zs.getD i 0))) ∧ ∀ n ∈ zs, (Lit.int k n).wf = true
theorem isRow_sl {w : World} {a : Option Addr} {len cap : Nat} {zs : List Int} (h : IsRow .i64 w a len cap zs) : Sl w a len (zs.take len) := by
  rcases h with ⟨rfl, rfl, rfl, rfl⟩ | ⟨x, rfl, hl, hm, hz, hc, hw⟩
  · exact ⟨rfl, by omega, fun k hk => absurd hk (by omega), fun x hx => by simp at hx⟩
  · unfold maxLen at hm
    refine ⟨by rw [List.length_take]; omega, by omega, fun k hk => ?_, fun y hy => ?_⟩
    · have h0 := hc 0 (by omega)
      have hk0 := hc k (by omega)
      obtain ⟨b, off, spot⟩ := x
      have hspot : spot = none := by simpa [Addr.add] using World.cell?_spot h0
      subst hspot
      rw [Addr.add_lit] at hk0
      exact ⟨b, off, rfl, by rw [gx_take _ _ _ hk]; exact hk0⟩
    · have := hw y (List.mem_of_mem_take hy)
      simp [Lit.wf, IntKind.min, IntKind.max, IntKind.signed, IntKind.bits] at this
      exact this
theorem walk_FnExactSumOf (a0 : Option Addr) (len0 cap0 : Nat) (z0 : List Int) (w : World) (w0 : IsRow .i64 w a0 len0 cap0 z0) :
    Calls Try.prog 10 #[.slice a0 len0 cap0] w fun e w' => e = .returned (.bool true) ∧ Below w.heap.size w w' := by
  have hs := isRow_sl w0
  have HS := Lib.hid hs
  have hn := hs.2.1
  clear hs w0
  by_cases hbig : 1048576 < len0
  · go_enter Try.func10, Try.ntmps10
    go_wp2
    go_ret
    exact ⟨rfl, Below.refl _ _⟩
  · have hle : len0 ≤ 1048576 := by omega
    go_enter Try.func10, Try.ntmps10
    go_wp2_with fail
    refine (l_toInt64S a0 len0 cap0 _ _ HS.out hle).mono ?_
    rintro e w1 ⟨g1, rfl, p1, q1, s1, b1⟩
    have S1 := Lib.hid s1; have B1 := Lib.hid b1; have T1 := Lib.hid (sl_later HS.out b1)
    clear s1 b1
    go_wp2_with fail
    refine (s_SumOf _ _ _ _ _ S1.out).mono ?_
    rintro e w' ⟨rfl, rfl⟩
    go_wp2_with fail
    refine (l_toInt64S a0 len0 cap0 _ _ T1.out hle).mono ?_
    rintro e w2 ⟨g2, rfl, p2, q2, s2, b2⟩
    have S2 := Lib.hid s2; have B2 := Lib.hid b2; have T2 := Lib.hid (sl_later T1.out b2)
    clear s2 b2
    go_wp2_with fail
    refine (i_SumOf _ _ _ _ _ S2.out).mono ?_
    rintro e w' ⟨rfl, rfl⟩
    go_wp2_with fail
    refine (l_toInt64S a0 len0 cap0 _ _ T2.out hle).mono ?_
    rintro e w3 ⟨g3, rfl, p3, q3, s3, b3⟩
    have S3 := Lib.hid s3; have B3 := Lib.hid b3; have S2' := Lib.hid (sl_later S2.out b3)
    clear s3 b3
    go_wp2_with fail
    refine (l_eqInt64S _ _ _ _ _ _ _ _ S2'.out S3.out).mono ?_
    rintro e w' ⟨rfl, q, rfl⟩
    go_wp2_with fail
    go_ret
    exact ⟨rfl, below_drewN (B1.out.trans ((B2.out.mono B1.out.size).trans (B3.out.mono (Nat.le_trans B1.out.size B2.out.size)))) q⟩
theorem walk_FnExactIsRising (a0 : Option Addr) (len0 cap0 : Nat) (z0 : List Int) (a1 : Int) (w : World) (w0 : IsRow .i64 w a0 len0 cap0 z0) (w1 : (Lit.int .i64 a1).wf = true) :
    Calls Try.prog 11 #[.slice a0 len0 cap0, .int .i64 a1] w fun e w' => e = .returned (.bool true) ∧ Below w.heap.size w w' := by
  have hs := isRow_sl w0
  have HS := Lib.hid hs
  have hn := hs.2.1
  clear hs w0 w1
  by_cases hbig : 1048576 < len0
  · go_enter Try.func11, Try.ntmps11
    go_wp2
    go_ret
    exact ⟨rfl, Below.refl _ _⟩
  · have hle : len0 ≤ 1048576 := by omega
    go_enter Try.func11, Try.ntmps11
    go_wp2_with fail
    refine (l_toInt64S a0 len0 cap0 _ _ HS.out hle).mono ?_
    rintro e w1 ⟨g1, rfl, p1, q1, s1, b1⟩
    have S1 := Lib.hid s1; have B1 := Lib.hid b1; have T1 := Lib.hid (sl_later HS.out b1)
    clear s1 b1
    go_wp2_with fail
    refine (s_IsRising _ _ _ _ _ _ S1.out).mono ?_
    rintro e w' ⟨rfl, q4, rfl⟩
    go_wp2_with fail
    refine (l_toInt64S a0 len0 cap0 _ (w1.drewN q4) (show Sl (w1.drewN q4) _ _ _ from T1.out) hle).mono ?_
    rintro e w2 ⟨g2, rfl, p2, q2, s2, b2⟩
    have S2 := Lib.hid s2; have B2 := Lib.hid b2; have T2 := Lib.hid (sl_later (show Sl (w1.drewN q4) _ _ _ from T1.out) b2)
    clear s2 b2
    go_wp2_with fail
    refine (i_IsRising _ _ _ _ _ _ S2.out).mono ?_
    rintro e w' ⟨rfl, rfl⟩
    go_wp2_with fail
    refine (l_toInt64S a0 len0 cap0 _ _ T2.out hle).mono ?_
    rintro e w3 ⟨g3, rfl, p3, q3, s3, b3⟩
    have S3 := Lib.hid s3; have B3 := Lib.hid b3; have S2' := Lib.hid (sl_later S2.out b3)
    clear s3 b3
    go_wp2_with fail
    refine (l_eqInt64S _ _ _ _ _ _ _ _ S2'.out S3.out).mono ?_
    rintro e w' ⟨rfl, q, rfl⟩
    go_wp2_with fail
    go_ret
    exact ⟨rfl, below_drewN ((below_drewN B1.out q4).trans ((B2.out.mono B1.out.size).trans (B3.out.mono (Nat.le_trans B1.out.size B2.out.size)))) q⟩
end Go.Proofs.Ytkkhmlnneijmgaa
