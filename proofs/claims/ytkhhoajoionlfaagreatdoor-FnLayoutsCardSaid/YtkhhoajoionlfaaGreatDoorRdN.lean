/- What the program's loose reading of a line tells, by its words. No program in sight but the kinds' reading. -/
import Derived.Test.YtkhhoajoionlfaaGreatDoorRdM
namespace Go.Proofs.YtkhhoajoionlfaaGreatDoor
set_option linter.unusedVariables false
set_option linter.unusedSimpArgs false
/-- what a word names -/
def KNm (l : List UInt8) (y : Int) (b : Bool) : Prop := 0 ≤ y ∧ y ≤ 4 ∧ ∀ k, kndB k = true → l = kNm k → y = k ∧ b = true
/-- 'the words behind the first are read as the first k numbers N' -/
def Nums (W : List (List UInt8)) (k : Nat) (N : List Int) : Prop := N.length = k ∧ ∀ j, j < k → Lib.parseIntB 64 (W.getD (j + 1) []) = .ok (N.getD j 0)
theorem nums_nil (W : List (List UInt8)) : Nums W 0 [] := ⟨rfl, fun j hj => absurd hj (by omega)⟩
theorem nums_snoc {W : List (List UInt8)} {k : Nat} {N : List Int} {v : Int} (h : Nums W k N) (hv : Lib.parseIntB 64 (W.getD (k + 1) []) = .ok v) : Nums W (k + 1) (N ++ [v]) := by
  refine ⟨by rw [List.length_append, h.1]; rfl, fun j hj => ?_⟩
  by_cases hjk : j < k
  · have e : (N ++ [v]).getD j 0 = N.getD j 0 := by rw [List.getD_eq_getElem?_getD, List.getElem?_append_left (by rw [h.1]; exact hjk), ← List.getD_eq_getElem?_getD]
    rw [e]; exact h.2 j hjk
  · obtain rfl : j = k := by omega
    have e : (N ++ [v]).getD j 0 = v := by rw [List.getD_eq_getElem?_getD, List.getElem?_append_right (by rw [h.1]; omega), h.1]; simp
    rw [e]; exact hv
/-- the words of a text of a segment -/
def WdOf (l : List UInt8) (W : List (List UInt8)) : Prop := ∀ x, sgB x = true → l = segTx x → W = wds x
theorem wds_num (x : Sg) (hx : sgB x = true) : ∀ j, j < 6 → Lib.parseIntB 64 ((wds x).getD (j + 1) []) = .ok (x.at (j + 1)) := by
  intro j hj
  have h := (isWords_wds x hx).2.2.2 j hj
  rw [spl_segTx] at h
  obtain ⟨h1, h2, h3⟩ := h
  have e : (wds x).getD (j + 1) [] = Lib.itoa (x.at (j + 1)) := h3.symm
  rw [e]
  exact parse_itoa _ ⟨by omega, by omega⟩
theorem rsg_no7 {l : List UInt8} {W : List (List UInt8)} (h : WdOf l W) (h7 : W.length ≠ 7) : RSg l sg0 false := by
  refine ⟨fun j => ?_, fun x hx hl => absurd (by rw [h x hx hl]; rfl) h7⟩
  unfold sg0 Sg.at
  split <;> decide
theorem rsg_nok {l : List UInt8} {W : List (List UInt8)} {y : Int} (h : WdOf l W) (hk : KNm (W.getD 0 []) y false) : RSg l sg0 false := by
  refine ⟨fun j => by unfold sg0 Sg.at; split <;> decide, fun x hx hl => ?_⟩
  have h1 := (isWords_wds x hx).2.1
  have h2 := hk.2.2 x.k h1 (by rw [h x hx hl]; rfl)
  exact absurd h2.2 (by decide)
theorem rsg_nonum {l : List UInt8} {W : List (List UInt8)} (h : WdOf l W) (k : Nat) (hk : k < 6) (hn : ∀ v, Lib.parseIntB 64 (W.getD (k + 1) []) ≠ .ok v) : RSg l sg0 false := by
  refine ⟨fun j => by unfold sg0 Sg.at; split <;> decide, fun x hx hl => ?_⟩
  exact absurd (by rw [h x hx hl]; exact wds_num x hx k hk) (hn (x.at (k + 1)))
theorem nums_in {W : List (List UInt8)} {k : Nat} {N : List Int} (h : Nums W k N) (j : Nat) (hj : j < k) : -9223372036854775808 ≤ N.getD j 0 ∧ N.getD j 0 ≤ 9223372036854775807 := parse_in _ _ (h.2 j hj)
theorem rsg_done {l : List UInt8} {W : List (List UInt8)} {y : Int} {b : Bool} {N : List Int} (h : WdOf l W) (hk : KNm (W.getD 0 []) y b) (hN : Nums W 6 N) :
    RSg l ⟨y, N.getD 0 0, N.getD 1 0, N.getD 2 0, N.getD 3 0, N.getD 4 0, N.getD 5 0⟩ true := by
  have i0 := nums_in hN 0 (by omega); have i1 := nums_in hN 1 (by omega); have i2 := nums_in hN 2 (by omega); have i3 := nums_in hN 3 (by omega); have i4 := nums_in hN 4 (by omega); have i5 := nums_in hN 5 (by omega)
  have hy := hk.1; have hy' := hk.2.1
  refine ⟨fun j => ?_, fun x hx hl => ?_⟩
  · unfold Sg.at
    split <;> simp only [] <;> omega
  · have hW := h x hx hl
    have hkx := (hk.2.2 x.k (isWords_wds x hx).2.1 (by rw [hW]; rfl)).1
    have hn : ∀ j, j < 6 → N.getD j 0 = x.at (j + 1) := fun j hj => by
      have h1 := hN.2 j hj
      rw [hW, wds_num x hx j hj] at h1
      exact (Lib.NumEnd.ok.inj h1).symm
    have n0 := hn 0 (by omega); have n1 := hn 1 (by omega); have n2 := hn 2 (by omega); have n3 := hn 3 (by omega); have n4 := hn 4 (by omega); have n5 := hn 5 (by omega)
    refine ⟨?_, rfl⟩
    rw [n0, n1, n2, n3, n4, n5, hkx]
    rfl
end Go.Proofs.YtkhhoajoionlfaaGreatDoor
