/- Numbers of at most twelve digits, read strictly. No program in sight. -/
import Derived.Test.YtokipobjpinhmaaDoorMathM
namespace Go.Proofs.YtokipobjpinhmaaDoor
open Go
set_option linter.unusedSimpArgs false
set_option linter.unusedVariables false
theorem vl_bd (l : List UInt8) : ∀ acc, Digs l → vl acc l < (acc + 1) * 10 ^ l.length := by
  induction l with
  | nil => intro acc _; simp [vl]
  | cons c r ih =>
    intro acc h
    have hc := h c (by simp)
    have h1 := ih (acc * 10 + (c.toNat - 48)) (fun x hx => h x (by simp [hx]))
    have h2 : vl acc (c :: r) = vl (acc * 10 + (c.toNat - 48)) r := rfl
    rw [h2, List.length_cons, Nat.pow_succ]
    have h3 : (acc * 10 + (c.toNat - 48) + 1) * 10 ^ r.length ≤ ((acc + 1) * 10) * 10 ^ r.length := Nat.mul_le_mul_right _ (by omega)
    have h4 : ((acc + 1) * 10) * 10 ^ r.length = (acc + 1) * (10 ^ r.length * 10) := by rw [Nat.mul_assoc, Nat.mul_comm 10]
    omega
/-- 'l is a number below 10^12 as it is written' -/
def IsN (l : List UInt8) : Prop := ∃ m : Nat, m < 1000000000000 ∧ Lib.decDigits m = l
theorem isN_vl {l : List UInt8} (h : IsN l) : Digs l ∧ Lib.decDigits (vl 0 l) = l ∧ 1 ≤ l.length ∧ l.length ≤ 12 ∧ vl 0 l < 1000000000000 := by
  obtain ⟨m, hm, rfl⟩ := h
  obtain ⟨h1, h2, h3⟩ := dec_read (m + 1) m (by omega)
  refine ⟨h2, by rw [h1], ?_, dec_len1 11 m (by omega), by rw [h1]; exact hm⟩
  cases h : Lib.decDigits m with
  | nil => exact absurd h h3
  | cons a r => simp
theorem vl_snoc (l : List UInt8) (c : UInt8) : vl 0 (l ++ [c]) = vl 0 l * 10 + (c.toNat - 48) := by rw [vl_append]; rfl
theorem vl_12 (l : List UInt8) (h : Digs l) (hl : l.length ≤ 12) : vl 0 l < 1000000000000 := by
  have h1 := vl_bd l 0 h
  have h2 : 10 ^ l.length ≤ 10 ^ 12 := Nat.pow_le_pow_right (by omega) hl
  omega
theorem vl_11 (l : List UInt8) (h : Digs l) (hl : l.length ≤ 11) : vl 0 l < 100000000000 := by
  have h1 := vl_bd l 0 h
  have h2 : 10 ^ l.length ≤ 10 ^ 11 := Nat.pow_le_pow_right (by omega) hl
  omega
/-- 'l is a number of at most twelve digits as it is written, with its sign' -/
def IsZ (l : List UInt8) (n : Int) : Prop := -1000000000000 < n ∧ n < 1000000000000 ∧ Lib.itoa n = l
theorem dec_inj {a b : Nat} (h : Lib.decDigits a = Lib.decDigits b) : a = b := by
  have h1 := (dec_read (a + 1) a (by omega)).1
  have h2 := (dec_read (b + 1) b (by omega)).1
  rw [← h1, ← h2, h]
theorem dec_ne45 (m : Nat) (r : List UInt8) : Lib.decDigits m ≠ 45 :: r := by
  intro h
  have h1 := (dec_read (m + 1) m (by omega)).2.1 45 (by rw [h]; simp)
  have : (45 : UInt8).toNat = 45 := rfl
  omega
theorem itoa_neg (m : Nat) (h : 0 < m) : Lib.itoa (-(m : Int)) = 45 :: Lib.decDigits m := by
  unfold Lib.itoa; rw [if_pos (by omega)]; simp
theorem itoa_nat (m : Nat) : Lib.itoa (m : Int) = Lib.decDigits m := by
  unfold Lib.itoa; rw [if_neg (by omega)]; simp
theorem isZ_neg {r : List UInt8} {n : Int} : IsZ (45 :: r) n ↔ ∃ m : Nat, 0 < m ∧ m < 1000000000000 ∧ n = -(m : Int) ∧ Lib.decDigits m = r := by
  constructor
  · rintro ⟨h1, h2, h3⟩
    by_cases hn : n < 0
    · obtain ⟨m, rfl⟩ : ∃ m : Nat, n = -(m : Int) := ⟨n.natAbs, by omega⟩
      rw [itoa_neg m (by omega)] at h3
      exact ⟨m, by omega, by omega, rfl, List.tail_eq_of_cons_eq h3⟩
    · obtain ⟨m, rfl⟩ : ∃ m : Nat, n = (m : Int) := ⟨n.natAbs, by omega⟩
      rw [itoa_nat] at h3
      exact absurd h3 (dec_ne45 m r)
  · rintro ⟨m, h1, h2, rfl, rfl⟩
    exact ⟨by omega, by omega, itoa_neg m h1⟩
theorem isZ_pos {l : List UInt8} {n : Int} (h : ∀ r, l ≠ 45 :: r) : IsZ l n ↔ ∃ m : Nat, m < 1000000000000 ∧ n = (m : Int) ∧ Lib.decDigits m = l := by
  constructor
  · rintro ⟨h1, h2, h3⟩
    by_cases hn : n < 0
    · obtain ⟨m, rfl⟩ : ∃ m : Nat, n = -(m : Int) := ⟨n.natAbs, by omega⟩
      rw [itoa_neg m (by omega)] at h3
      exact absurd h3.symm (h _)
    · obtain ⟨m, rfl⟩ : ∃ m : Nat, n = (m : Int) := ⟨n.natAbs, by omega⟩
      rw [itoa_nat] at h3
      exact ⟨m, by omega, rfl, h3⟩
  · rintro ⟨m, h1, rfl, rfl⟩
    exact ⟨by omega, by omega, itoa_nat m⟩
theorem isZ_inj {l : List UInt8} {a b : Int} (ha : IsZ l a) (hb : IsZ l b) : a = b := by
  by_cases h : ∃ r, l = 45 :: r
  · obtain ⟨r, rfl⟩ := h
    obtain ⟨m, _, _, rfl, h1⟩ := isZ_neg.1 ha
    obtain ⟨m', _, _, rfl, h2⟩ := isZ_neg.1 hb
    rw [dec_inj (h1.trans h2.symm)]
  · have h' : ∀ r, l ≠ 45 :: r := fun r e => h ⟨r, e⟩
    obtain ⟨m, _, rfl, h1⟩ := (isZ_pos h').1 ha
    obtain ⟨m', _, rfl, h2⟩ := (isZ_pos h').1 hb
    rw [dec_inj (h1.trans h2.symm)]
end Go.Proofs.YtokipobjpinhmaaDoor
