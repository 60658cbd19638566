/- Texts of segments and layouts, cut again. No program in sight. -/
import Derived.Test.YtpeebgkgccacbaaDoorSpL
namespace Go.Proofs.YtpeebgkgccacbaaDoor
open Go
set_option linter.unusedSimpArgs false
set_option linter.unusedVariables false
theorem itoa_ge (n : Int) : ∀ b ∈ Lib.itoa n, 45 ≤ b.toNat := by
  have hd : ∀ m : Nat, ∀ b ∈ Lib.decDigits m, 45 ≤ b.toNat := fun m b hb => by
    have := (dec_read (m + 1) m (by omega)).2.1 b hb; omega
  intro b hb
  unfold Lib.itoa at hb
  split at hb
  · rcases List.mem_cons.1 hb with rfl | hb
    · decide
    · exact hd _ b hb
  · exact hd _ b hb
theorem kNm_ge (k : Int) : ∀ b ∈ kNm k, 45 ≤ b.toNat := by
  unfold kNm
  repeat' split
  all_goals decide
theorem ne_of_ge {l : List UInt8} (h : ∀ b ∈ l, 45 ≤ b.toNat) (c : UInt8) (hc : c.toNat < 45) : ∀ b ∈ l, b ≠ c := by
  rintro b hb rfl
  have := h b hb
  omega
theorem spl_segTx (x : Sg) : spl 32 (segTx x) = wds x := by
  have e : segTx x = kNm x.k ++ 32 :: (Lib.itoa x.l ++ 32 :: (Lib.itoa x.r ++ 32 :: (Lib.itoa x.a ++ 32 :: (Lib.itoa x.b ++ 32 :: (Lib.itoa x.c ++ 32 :: Lib.itoa x.d))))) := by rw [segTx_eq]; simp
  rw [e, spl_hit _ _ _ (ne_of_ge (kNm_ge _) 32 (by decide)), spl_hit _ _ _ (ne_of_ge (itoa_ge _) 32 (by decide)), spl_hit _ _ _ (ne_of_ge (itoa_ge _) 32 (by decide)), spl_hit _ _ _ (ne_of_ge (itoa_ge _) 32 (by decide)), spl_hit _ _ _ (ne_of_ge (itoa_ge _) 32 (by decide)), spl_hit _ _ _ (ne_of_ge (itoa_ge _) 32 (by decide)), spl_none _ _ (ne_of_ge (itoa_ge _) 32 (by decide))]
  rfl
theorem isWords_wds (x : Sg) (h : sgB x = true) : IsWords (spl 32 (segTx x)) x := by
  rw [spl_segTx]
  obtain ⟨h1, h2, h3, h4, h5, h6⟩ := (sgB_iff x).1 h
  have hc : -1000000000000 < x.c ∧ x.c < 1000000000000 ∧ -1000000000000 < x.d ∧ x.d < 1000000000000 := by
    by_cases h0 : x.k = 0
    · have := h5 h0; omega
    · have := h6 h0; omega
  refine ⟨rfl, by unfold kndB; simp; omega, rfl, fun j hj => ?_⟩
  have h5 : j = 0 ∨ j = 1 ∨ j = 2 ∨ j = 3 ∨ j = 4 ∨ j = 5 := by omega
  rcases h5 with rfl | rfl | rfl | rfl | rfl | rfl
  · exact ⟨show -1000000000000 < x.l by omega, show x.l < 1000000000000 by omega, rfl⟩
  · exact ⟨show -1000000000000 < x.r by omega, show x.r < 1000000000000 by omega, rfl⟩
  · exact ⟨show -1000000000000 < x.a by omega, show x.a < 1000000000000 by omega, rfl⟩
  · exact ⟨show -1000000000000 < x.b by omega, show x.b < 1000000000000 by omega, rfl⟩
  · exact ⟨show -1000000000000 < x.c by omega, show x.c < 1000000000000 by omega, rfl⟩
  · exact ⟨show -1000000000000 < x.d by omega, show x.d < 1000000000000 by omega, rfl⟩
theorem segTx_no10 (x : Sg) : ∀ b ∈ segTx x, b ≠ 10 := by
  intro b hb
  rw [segTx_eq] at hb
  have hi := fun n => ne_of_ge (itoa_ge n) 10 (by decide)
  have hk := ne_of_ge (kNm_ge x.k) 10 (by decide)
  have h32 : (32 : UInt8) ≠ 10 := by decide
  simp only [List.mem_append, List.mem_cons] at hb
  rcases hb with ((((((hb | rfl | hb) | rfl | hb) | rfl | hb) | rfl | hb) | rfl | hb) | rfl | hb)
  all_goals first | exact hk b hb | exact hi _ b hb | exact h32
theorem spl_linTx (L : List Sg) : spl 10 (linTx L) = L.map segTx ++ [[]] := by
  induction L with
  | nil => rfl
  | cons x L ih =>
    have e : linTx (x :: L) = segTx x ++ 10 :: linTx L := by rw [linTx_cons]; simp
    rw [e, spl_hit _ _ _ (segTx_no10 x), ih]
    rfl
theorem lin_of_spl (L : List Sg) : ∀ l, spl 10 l = L.map segTx ++ [[]] → l = linTx L := by
  induction L with
  | nil =>
    intro l h
    have := spl_join 10 l [] [] h
    rw [this]; rfl
  | cons x L ih =>
    intro l h
    have h1 := spl_join 10 l (segTx x) (L.map segTx ++ [[]]) (by simpa using h)
    cases hM : L.map segTx ++ [[]] with
    | nil => simp at hM
    | cons a t =>
      rw [hM] at h1
      have h2 : spl 10 (linTx L) = a :: t := by rw [spl_linTx, hM]
      have h3 := spl_join 10 _ _ _ h2
      rw [h1, linTx_cons, h3]
      simp [Lib.joinTail]
/-- 'the lines of l are those of the segments L' -/
def IsLines (l : List UInt8) (L : List Sg) : Prop := spl 10 l = L.map segTx ++ [[]]
theorem lines_iff (l : List UInt8) (L : List Sg) : IsLines l L ↔ l = linTx L := ⟨lin_of_spl L l, fun h => by rw [h]; exact spl_linTx L⟩
theorem seg_inj {x y : Sg} (hx : sgB x = true) (hy : sgB y = true) (h : segTx x = segTx y) : x = y := by
  have h1 := isWords_wds x hx
  have h2 := isWords_wds y hy
  rw [h] at h1
  exact isWords_inj h1 h2
theorem lin_inj : ∀ (L M : List Sg), (∀ x ∈ L, sgB x = true) → (∀ x ∈ M, sgB x = true) → linTx L = linTx M → L = M := by
  intro L M hL hM h
  have h1 := spl_linTx L
  rw [h, spl_linTx M] at h1
  have h2 : M.map segTx = L.map segTx := List.append_cancel_right h1
  clear h h1
  induction L generalizing M with
  | nil => cases M with
    | nil => rfl
    | cons y M => simp at h2
  | cons x L ih =>
    cases M with
    | nil => simp at h2
    | cons y M =>
      simp only [List.map_cons, List.cons.injEq] at h2
      rw [seg_inj (hL x (by simp)) (hM y (by simp)) h2.1.symm, ih M (fun z hz => hL z (by simp [hz])) (fun z hz => hM z (by simp [hz])) h2.2]
end Go.Proofs.YtpeebgkgccacbaaDoor
