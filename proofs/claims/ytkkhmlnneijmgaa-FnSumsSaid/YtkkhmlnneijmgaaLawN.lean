/- The walks of the laws of chapter 1 on numbers: quotients and roots. -/
import Derived.Test.YtkkhmlnneijmgaaDrawN
import Derived.Test.YtkkhmlnneijmgaaExL
namespace Go.Proofs.Ytkkhmlnneijmgaa
open Go.RowKit
set_option maxHeartbeats 2000000
set_option linter.unusedVariables false
set_option linter.unusedSimpArgs false
theorem isRow_bytes {w : World} {a : Option Addr} {len cap : Nat} {zs : List Int} (h : IsRow .u8 w a len cap zs) : Bytes w a len := by
  rcases h with ⟨rfl, rfl, rfl, rfl⟩ | ⟨x, rfl, hl, hm, hz, hc, hw⟩
  · exact ⟨by omega, fun k hk => absurd hk (by omega)⟩
  · unfold maxLen at hm
    refine ⟨by omega, fun k hk => ?_⟩
    have h0 := hc 0 (by omega)
    have hk0 := hc k (by omega)
    obtain ⟨b, off, spot⟩ := x
    have hspot : spot = none := by simpa [Addr.add] using World.cell?_spot h0
    subst hspot
    rw [Addr.add_lit] at hk0
    have hb := hw (zs.getD k 0) (show gx zs k ∈ zs from gx_mem zs k (by omega))
    simp [Lit.wf, IntKind.min, IntKind.max, IntKind.signed, IntKind.bits] at hb
    exact ⟨b, off, zs.getD k 0, rfl, hk0, by simpa using hb.1, by simpa using hb.2⟩
/-- what the laws on quotients say of the rounded quotients -/
theorem quot_facts (a b : Int) (h1 : -1000000000000 ≤ a) (h2 : a ≤ 1000000000000) (hb : b ≠ 0) :
    (-1000000000000 - 1 ≤ flo a b ∧ flo a b ≤ 1000000000000) ∧ (-1000000000000 ≤ cei a b ∧ cei a b ≤ 1000000000000 + 1) ∧ 0 ≤ cei a b - flo a b ∧ cei a b - flo a b ≤ 1 ∧ ((cei a b == flo a b) == (a.tmod b == 0)) = true ∧
    (0 < b → flo a b * b ≤ a ∧ a ≤ cei a b * b ∧ a - b < flo a b * b ∧ cei a b * b < a + b) ∧ (b < 0 → a ≤ flo a b * b ∧ cei a b * b ≤ a ∧ flo a b * b < a - b ∧ a + b < cei a b * b) := by
  have t := tdiv_bd a b _ h1 h2
  obtain ⟨e, t1, t2, t3, t4⟩ := tmod_facts a b hb
  unfold flo cei
  generalize a.tdiv b = q at *
  generalize a.tmod b = r at *
  have eq1 : b * q = q * b := Int.mul_comm _ _
  have eq2 : (q - 1) * b = q * b - b := by rw [Int.sub_mul]; omega
  have eq3 : (q + 1) * b = q * b + b := by rw [Int.add_mul]; omega
  by_cases hr : r = 0
  · subst hr
    simp
    refine ⟨by omega, by omega, fun h => ?_, fun h => ?_⟩ <;> omega
  · by_cases hs : (a < 0 ↔ b < 0)
    · rw [if_neg (by simp [hs]), if_pos ⟨hr, hs⟩]
      refine ⟨by omega, by omega, by omega, by omega, ?_, ?_, ?_⟩
      · have : (q + 1 == q) = false := by simp; omega
        rw [this]; simpa using hr
      · intro h; omega
      · intro h; omega
    · rw [if_pos ⟨hr, hs⟩, if_neg (by simp [hs])]
      refine ⟨by omega, by omega, by omega, by omega, ?_, ?_, ?_⟩
      · have : (q == q - 1) = false := by simp; omega
        rw [this]; simpa using hr
      · intro h; omega
      · intro h; omega
theorem walk_FnQuotients (a0 : Option Addr) (len0 cap0 : Nat) (z0 : List Int) (w : World) (w0 : IsRow .u8 w a0 len0 cap0 z0) :
    Calls Try.prog 3 #[.slice a0 len0 cap0] w fun e w' => e = .returned (.bool true) ∧ Below w.heap.size w w' := by
  have HS := Lib.hid (isRow_bytes w0)
  clear w0
  by_cases hbig : 4096 < len0
  · go_enter Try.func3, Try.ntmps3
    go_wp2_with fail
    refine (l_big _ _ _ _).mono ?_
    rintro e w' ⟨rfl, rfl⟩
    go_wp2
    go_ret
    exact ⟨rfl, Below.refl _ _⟩
  · go_enter Try.func3, Try.ntmps3
    go_wp2_with fail
    refine (l_big _ _ _ _).mono ?_
    rintro e w' ⟨rfl, rfl⟩
    go_wp2_with fail
    refine (s_DrawDivideDown _ _ _ _ HS.out).mono ?_
    rintro e w1 ⟨a, b, rfl, ha, hb, bel⟩
    have B1 := Lib.hid bel
    clear bel hb
    go_wp2_with fail
    refine (i_DivideDown _ _ _).mono ?_
    rintro e w' ⟨rfl, rfl⟩
    go_wp2_with fail
    refine (i_DivideUp _ _ _).mono ?_
    rintro e w' ⟨rfl, rfl⟩
    by_cases he : divErr a b = 0
    · obtain ⟨h1, h2, h3, h4, h0⟩ := divErr_0 a b he
      have D : Hid (divD a b = flo a b) := Lib.hid (by unfold divD; rw [if_pos he])
      have U : Hid (divU a b = cei a b) := Lib.hid (by unfold divU; rw [if_pos he])
      have e0 : (divErr a b != 0) = false := by simp [he]
      obtain ⟨f1, f2, f3, f4, f5, f6, f7⟩ := quot_facts a b h1 h2 h0
      rw [← D.out, ← U.out] at *
      obtain ⟨f1, f1'⟩ := f1
      obtain ⟨f2, f2'⟩ := f2
      have HE := Lib.hid he
      clear he
      by_cases hb : b < 0
      · obtain ⟨g1, g2, g3, g4⟩ := f7 hb
        clear f6 f7
        go_wp2_with fail
        refine (s_DivideDown _ _ _).mono ?_
        rintro e w' ⟨rfl, rfl⟩
        go_wp2_with fail
        go_ret
        exact ⟨rfl, B1.out⟩
      · obtain ⟨g1, g2, g3, g4⟩ := f6 (by omega)
        clear f6 f7
        go_wp2_with fail
        refine (s_DivideDown _ _ _).mono ?_
        rintro e w' ⟨rfl, rfl⟩
        go_wp2_with fail
        go_ret
        exact ⟨rfl, B1.out⟩
    · have U : Hid (divU a b = 0) := Lib.hid (by unfold divU; rw [if_neg he])
      have e0 : (divErr a b != 0) = true := by simp [he]
      have e1 : (divU a b == 0) = true := by simp [U.out]
      clear he
      go_wp2_with fail
      refine (s_DivideDown _ _ _).mono ?_
      rintro e w' ⟨rfl, rfl⟩
      go_wp2_with fail
      go_ret
      exact ⟨rfl, B1.out⟩
/-- what the laws on roots say of the rounded roots -/
theorem root_facts (n : Int) (h1 : 0 ≤ n) (h2 : n ≤ 1000000000000) :
    (0 ≤ rootD n ∧ rootD n ≤ 1000000) ∧ (0 ≤ rootU n ∧ rootU n ≤ 1000001) ∧ 0 ≤ rootU n - rootD n ∧ rootU n - rootD n ≤ 1 ∧
    rootD n * rootD n ≤ n ∧ 0 ≤ rootD n * rootD n ∧ n < (rootD n + 1) * (rootD n + 1) ∧ (rootD n + 1) * (rootD n + 1) ≤ 1000002000001 ∧
    n ≤ rootU n * rootU n ∧ rootU n * rootU n ≤ 1000002000001 ∧ ((rootU n == rootD n) == (rootD n * rootD n == n)) = true := by
  obtain ⟨b1, b2⟩ := rootD_bd n h1 h2
  obtain ⟨a, b, c⟩ := rootD_is n h1
  have s1 := sq_mono (rootD n + 1) 1000001 (by omega) (by omega)
  have s0 := sq_nn (rootD n)
  unfold rootU
  by_cases h : rootD n * rootD n < n
  · rw [if_pos h]
    refine ⟨⟨b1, b2⟩, by omega, by omega, by omega, b, s0, c, by omega, by omega, by omega, ?_⟩
    have e1 : (rootD n + 1 == rootD n) = false := by simp; omega
    have e2 : (rootD n * rootD n == n) = false := by simp; omega
    rw [e1, e2]; rfl
  · rw [if_neg h]
    have s2 := sq_mono (rootD n) 1000000 (by omega) (by omega)
    refine ⟨⟨b1, b2⟩, by omega, by omega, by omega, b, s0, c, by omega, by omega, by omega, ?_⟩
    have e2 : (rootD n * rootD n == n) = true := by simp; omega
    rw [e2]; simp
theorem walk_FnRoots (a0 : Option Addr) (len0 cap0 : Nat) (z0 : List Int) (w : World) (w0 : IsRow .u8 w a0 len0 cap0 z0) :
    Calls Try.prog 4 #[.slice a0 len0 cap0] w fun e w' => e = .returned (.bool true) ∧ Below w.heap.size w w' := by
  have HS := Lib.hid (isRow_bytes w0)
  clear w0
  by_cases hbig : 4096 < len0
  · go_enter Try.func4, Try.ntmps4
    go_wp2_with fail
    refine (l_big _ _ _ _).mono ?_
    rintro e w' ⟨rfl, rfl⟩
    go_wp2
    go_ret
    exact ⟨rfl, Below.refl _ _⟩
  · go_enter Try.func4, Try.ntmps4
    go_wp2_with fail
    refine (l_big _ _ _ _).mono ?_
    rintro e w' ⟨rfl, rfl⟩
    go_wp2_with fail
    refine (s_DrawRootDown _ _ _ _ HS.out).mono ?_
    rintro e w1 ⟨n, rfl, hn, bel⟩
    have B1 := Lib.hid bel
    clear bel hn
    go_wp2_with fail
    refine (i_RootDown _ _).mono ?_
    rintro e w' ⟨rfl, rfl⟩
    go_wp2_with fail
    refine (i_RootUp _ _).mono ?_
    rintro e w' ⟨rfl, rfl⟩
    by_cases h : 0 ≤ n ∧ n ≤ 1000000000000
    · obtain ⟨h1, h2⟩ := h
      have he := rootErr_in n h1 h2
      have D : Hid (rootDR n = rootD n) := Lib.hid (by unfold rootDR; rw [if_pos he])
      have U : Hid (rootUR n = rootU n) := Lib.hid (by unfold rootUR; rw [if_pos he])
      have e0 : (rootErr n != 0) = false := by simp [he]
      have F := root_facts n h1 h2
      rw [← D.out, ← U.out] at F
      clear he
      obtain ⟨⟨f1, f1'⟩, ⟨f2, f2'⟩, f3, f4, f5, f6, f7, f8, f9, f10, f11⟩ := F
      go_wp2_with fail
      refine (s_RootDown _ _).mono ?_
      rintro e w' ⟨rfl, rfl⟩
      go_wp2_with fail
      go_ret
      exact ⟨rfl, B1.out⟩
    · have he := rootErr_out n (by omega)
      have U : Hid (rootUR n = 0) := Lib.hid (by unfold rootUR; rw [if_neg (by rw [he]; decide)])
      have e0 : (rootErr n != 0) = true := by simp [he]
      have e1 : (rootUR n == 0) = true := by simp [U.out]
      clear he h
      go_wp2_with fail
      refine (s_RootDown _ _).mono ?_
      rintro e w' ⟨rfl, rfl⟩
      go_wp2_with fail
      go_ret
      exact ⟨rfl, B1.out⟩
end Go.Proofs.Ytkkhmlnneijmgaa
