/- Texts cut at a byte and put together, in plain words. No program in sight. -/
import Derived.Test.YtpeebgkgccacbaaDoorTkN
import Derived.Test.YtpeebgkgccacbaaDoorSpL
import Derived.Test.YtpeebgkgccacbaaDoorRdM
import Derived.Lib.IndexMore
import Derived.Lib.CutLaws
namespace Go.Proofs.YtpeebgkgccacbaaDoor
open Go
set_option linter.unusedSimpArgs false
set_option linter.unusedVariables false
theorem index_none (c : UInt8) : ∀ (l : List UInt8), (∀ x ∈ l, x ≠ c) → Lib.index l [c] = -1
  | [], _ => rfl
  | x :: r, h => by rw [index_past1 c x r (h x (by simp)), index_none c r (fun y hy => h y (by simp [hy]))]; rfl
theorem index_at (c : UInt8) (r : List UInt8) : ∀ (a : List UInt8), (∀ x ∈ a, x ≠ c) → Lib.index (a ++ c :: r) [c] = (a.length : Int)
  | [], _ => index_hit1 c r
  | x :: a, h => by
    show Lib.index (x :: (a ++ c :: r)) [c] = _
    rw [index_past1 c x _ (h x (by simp)), index_at c r a (fun y hy => h y (by simp [hy]))]
    have : (((a.length : Int)) == -1) = false := by simp <;> omega
    rw [this]; simp
/-- a text has no byte c, or a first one -/
theorem at_first (c : UInt8) : ∀ (l : List UInt8), (∀ x ∈ l, x ≠ c) ∨ ∃ a r, l = a ++ c :: r ∧ ∀ x ∈ a, x ≠ c
  | [] => .inl (fun x hx => by simp at hx)
  | y :: t => by
    by_cases h : y = c
    · exact .inr ⟨[], t, by rw [h]; rfl, fun x hx => by simp at hx⟩
    · rcases at_first c t with h1 | ⟨a, r, rfl, h1⟩
      · refine .inl (fun x hx => ?_)
        rcases List.mem_cons.1 hx with rfl | hx
        · exact h
        · exact h1 x hx
      · refine .inr ⟨y :: a, r, rfl, fun x hx => ?_⟩
        rcases List.mem_cons.1 hx with rfl | hx
        · exact h
        · exact h1 x hx
theorem cnt_spl (c : UInt8) : ∀ (f : Nat) (l : List UInt8), l.length < f → (spl c l).length = Lib.countFrom [c] f l + 1
  | 0, l, h => by omega
  | f + 1, l, h => by
    unfold Lib.countFrom
    rcases at_first c l with h1 | ⟨a, r, rfl, h1⟩
    · rw [index_none c l h1, spl_none c l h1]; rfl
    · rw [index_at c r a h1, spl_hit c a r h1]
      have : (((a.length : Int)) == -1) = false := by simp <;> omega
      rw [this]
      simp only [Bool.false_eq_true, if_false, Int.toNat_natCast, List.length_cons, List.length_nil]
      have e : (a ++ c :: r).drop (a.length + (0 + 1)) = r := by
        have : a ++ c :: r = (a ++ [c]) ++ r := by simp
        rw [this]; exact List.drop_left' (by simp)
      rw [e, cnt_spl c f r (by simp at h; omega)]
      omega
theorem spl_all (c : UInt8) (l : List UInt8) : Lib.splitK [c] 0 (Lib.count l [c]) l = spl c l :=
  splitK_spl c l _ (by rw [cnt_spl c (l.length + 1) l (by omega)]; exact Nat.le_refl _)
/-- the bytes before the first comment sign -/
def c35 : List UInt8 → List UInt8
  | [] => []
  | b :: t => if b.toNat = 35 then [] else b :: c35 t
theorem b35 (x : UInt8) : x.toNat = 35 ↔ x = 35 := by
  constructor
  · intro h; exact UInt8.toNat_inj.1 h
  · rintro rfl; rfl
theorem b10 (x : UInt8) : x.toNat = 10 ↔ x = 10 := by
  constructor
  · intro h; exact UInt8.toNat_inj.1 h
  · rintro rfl; rfl
theorem c35_none : ∀ (l : List UInt8), (∀ x ∈ l, x ≠ 35) → c35 l = l
  | [], _ => rfl
  | x :: r, h => by
    have : x.toNat ≠ 35 := fun e => h x (by simp) ((b35 x).1 e)
    simp only [c35, if_neg this]; rw [c35_none r (fun y hy => h y (by simp [hy]))]
theorem c35_at (r : List UInt8) : ∀ (a : List UInt8), (∀ x ∈ a, x ≠ 35) → c35 (a ++ 35 :: r) = a
  | [], _ => rfl
  | x :: a, h => by
    have : x.toNat ≠ 35 := fun e => h x (by simp) ((b35 x).1 e)
    show c35 (x :: (a ++ 35 :: r)) = _
    simp only [c35, if_neg this]; rw [c35_at r a (fun y hy => h y (by simp [hy]))]
theorem cut35 (u : List UInt8) : (Lib.cut u [35]).1 = c35 u := by
  unfold Lib.cut
  rcases at_first 35 u with h | ⟨a, r, rfl, h⟩
  · rw [index_none 35 u h, if_neg (by omega), c35_none u h]
  · rw [index_at 35 r a h, if_pos (by omega), c35_at r a h]
    simp
theorem c35_len : ∀ u, (c35 u).length ≤ u.length
  | [] => Nat.le_refl _
  | x :: r => by have := c35_len r; unfold c35; split <;> simp <;> omega
/-- a line without its comment, and what stands before it -/
def pcL (k : Nat) (u : List UInt8) : List UInt8 := (if 0 < k then [10] else []) ++ c35 u
/-- what stands for the lines from number k on -/
def jnL (k : Nat) : List (List UInt8) → List UInt8
  | [] => []
  | u :: r => pcL k u ++ jnL (k + 1) r
theorem jnL_pos (k j : Nat) (hk : 0 < k) (hj : 0 < j) : ∀ W, jnL k W = jnL j W
  | [] => rfl
  | u :: r => by
    unfold jnL pcL
    rw [if_pos hk, if_pos hj, jnL_pos (k + 1) (j + 1) (by omega) (by omega) r]
theorem stp_none : ∀ (l : List UInt8), (∀ x ∈ l, x ≠ 10) → stp false l = c35 l ∧ stp true l = []
  | [], _ => ⟨rfl, rfl⟩
  | x :: r, h => by
    have hx : x.toNat ≠ 10 := fun e => h x (by simp) ((b10 x).1 e)
    obtain ⟨i1, i2⟩ := stp_none r (fun y hy => h y (by simp [hy]))
    by_cases h2 : x.toNat = 35
    · simp [stp, c35, hx, h2, i2]
    · simp [stp, c35, hx, h2, i1, i2]
theorem stp_at (r : List UInt8) : ∀ (a : List UInt8), (∀ x ∈ a, x ≠ 10) → stp false (a ++ 10 :: r) = c35 a ++ 10 :: stp false r ∧ stp true (a ++ 10 :: r) = 10 :: stp false r
  | [], _ => ⟨rfl, rfl⟩
  | x :: a, h => by
    have hx : x.toNat ≠ 10 := fun e => h x (by simp) ((b10 x).1 e)
    obtain ⟨i1, i2⟩ := stp_at r a (fun y hy => h y (by simp [hy]))
    show stp false (x :: (a ++ 10 :: r)) = _ ∧ stp true (x :: (a ++ 10 :: r)) = _
    by_cases h2 : x.toNat = 35
    · simp [stp, c35, hx, h2, i2]
    · simp [stp, c35, hx, h2, i1, i2]
theorem stp_spl : ∀ (n : Nat) (l : List UInt8), l.length ≤ n → stp false l = jnL 0 (spl 10 l)
  | n, l, hn => by
    rcases at_first 10 l with h | ⟨a, r, rfl, h⟩
    · rw [spl_none 10 l h, (stp_none l h).1]
      simp [jnL, pcL]
    · rw [spl_hit 10 a r h, (stp_at r a h).1]
      cases n with
      | zero => simp at hn
      | succ n =>
        have ih := stp_spl n r (by simp at hn; omega)
        rw [ih]
        cases hs : spl 10 r with
        | nil => exact absurd hs (spl_ne 10 r)
        | cons u t =>
          show c35 a ++ 10 :: (pcL 0 u ++ jnL 1 t) = pcL 0 a ++ (pcL 1 u ++ jnL 2 t)
          rw [jnL_pos 1 2 (by omega) (by omega) t]
          simp [pcL]
/-- what StripComments hands back of the text l -/
def scE (l : List UInt8) : Int := if 6000 < l.length then 3 else 0
def scV (l : List UInt8) : List UInt8 := if 6000 < l.length then [] else stp false l
end Go.Proofs.YtpeebgkgccacbaaDoor
