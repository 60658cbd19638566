/- Plain texts of lengths: how they are written, and that they are read back. No program in sight. -/
import Derived.Test.YtokipobjpinhmaaDoorMath
import Derived.Lib.ItoaNum
import Derived.Lib.ParseIntB
namespace Go.Proofs.YtokipobjpinhmaaDoor
open Go
set_option linter.unusedVariables false
set_option linter.unusedSimpArgs false
theorem dec_len (k : Nat) : ∀ n : Nat, n < 10 ^ k → (Lib.decDigits n).length ≤ k + 1 := by
  induction k with
  | zero => intro n h; rw [Lib.decDigits, dif_pos (by omega)]; simp
  | succ k ih =>
    intro n h
    rw [Lib.decDigits]
    split
    · simp
    · have := ih (n / 10) (by rw [Nat.pow_succ] at h; omega)
      simp; omega
/-- a digit's byte -/
def dg1 (d : Nat) : UInt8 := UInt8.ofNat (48 + d)
/-- three decimals -/
def dig3 (r : Nat) : List UInt8 := [dg1 (r / 100 % 10), dg1 (r / 10 % 10), dg1 (r % 10)]
theorem dec_one (d : Nat) (h : d < 10) : Lib.decDigits d = [dg1 d] := by rw [Lib.decDigits, dif_pos h]; rfl
theorem dec_more (d : Nat) (h : ¬ d < 10) : Lib.decDigits d = Lib.decDigits (d / 10) ++ [dg1 (d % 10)] := by
  rw [Lib.decDigits.eq_def d, dif_neg h]; rfl
theorem dec_thousand (r : Nat) (h : r < 1000) : Lib.decDigits (1000 + r) = 49 :: dig3 r := by
  rw [dec_more _ (by omega), dec_more _ (by omega), dec_more _ (by omega), dec_one _ (by omega)]
  rw [show (1000 + r) / 10 / 10 / 10 = 1 by omega, show (1000 + r) / 10 / 10 % 10 = r / 100 % 10 by omega, show (1000 + r) / 10 % 10 = r / 10 % 10 by omega, show (1000 + r) % 10 = r % 10 by omega]
  rfl
theorem itoa_nn (n : Int) (h : 0 ≤ n) : Lib.itoa n = Lib.decDigits n.toNat := by unfold Lib.itoa; rw [if_neg (by omega)]
/-- the text of a length of 0 or more -/
def mAbs (m : Nat) : List UInt8 := Lib.decDigits (m / 1000) ++ [46] ++ dig3 m
/-- the text of a number of millimetres, or nothing -/
def mText (n : Int) : List UInt8 := if isVB n = true then (if n < 0 then 45 :: mAbs n.natAbs else mAbs n.natAbs) else []
theorem dig3_mod (m : Nat) : dig3 (m % 1000) = dig3 m := by
  unfold dig3
  rw [show m % 1000 / 100 % 10 = m / 100 % 10 by omega, show m % 1000 / 10 % 10 = m / 10 % 10 by omega, show m % 1000 % 10 = m % 10 by omega]
theorem mText_neg (m : Int) (hv : isVB (-m) = true) (h : 0 < m) : mText (-m) = 45 :: mAbs m.toNat := by
  unfold mText; rw [if_pos hv, if_pos (by omega), show (-m).natAbs = m.toNat by omega]
theorem mText_nn (m : Int) (hv : isVB m = true) (h : 0 ≤ m) : mText m = mAbs m.toNat := by
  unfold mText; rw [if_pos hv, if_neg (by omega), show m.natAbs = m.toNat by omega]

theorem dec_len1 (k : Nat) : ∀ n : Nat, n < 10 ^ (k + 1) → (Lib.decDigits n).length ≤ k + 1 := by
  induction k with
  | zero => intro n h; rw [dec_one n (by omega)]; simp
  | succ k ih =>
    intro n h
    by_cases hs : n < 10
    · rw [dec_one n hs]; simp
    · rw [dec_more n hs]
      have := ih (n / 10) (by rw [Nat.pow_succ] at h; omega)
      simp; omega
/-! reading -/
theorem dg1_nat (d : Nat) (h : d < 10) : (dg1 d).toNat = 48 + d := by unfold dg1; simp; omega
def vl (acc : Nat) (l : List UInt8) : Nat := l.foldl (fun a c => a * 10 + (c.toNat - 48)) acc
def Digs (l : List UInt8) : Prop := ∀ c ∈ l, 48 ≤ c.toNat ∧ c.toNat ≤ 57
theorem vl_ge (l : List UInt8) : ∀ acc, acc ≤ vl acc l := by
  induction l with
  | nil => intro acc; exact Nat.le_refl _
  | cons c l ih => intro acc; have := ih (acc * 10 + (c.toNat - 48)); unfold vl at *; simp only [List.foldl_cons]; omega
theorem parse_digs (l : List UInt8) : ∀ acc, Digs l → vl acc l ≤ 1000000000000000 → Lib.parseUintM (2 ^ 64 - 1) acc l = .ok (vl acc l) := by
  induction l with
  | nil => intro acc _ _; rfl
  | cons c l ih =>
    intro acc hd hv
    have h1 := hd c (by simp)
    have h2 : vl acc (c :: l) = vl (acc * 10 + (c.toNat - 48)) l := rfl
    have h3 := vl_ge l (acc * 10 + (c.toNat - 48))
    rw [h2] at hv ⊢
    unfold Lib.parseUintM
    rw [if_pos h1, if_neg (by omega), if_neg (by omega)]
    exact ih _ (fun c hc => hd c (by simp [hc])) hv
theorem vl_append (acc : Nat) (a b : List UInt8) : vl acc (a ++ b) = vl (vl acc a) b := by unfold vl; rw [List.foldl_append]
theorem digs_dg (d : Nat) (h : d < 10) : Digs [dg1 d] := by
  intro c hc; simp at hc; subst hc; rw [dg1_nat d h]; omega
theorem digs_append {a b : List UInt8} (ha : Digs a) (hb : Digs b) : Digs (a ++ b) := by
  intro c hc; rw [List.mem_append] at hc; rcases hc with h | h
  · exact ha c h
  · exact hb c h
theorem dec_read (k : Nat) : ∀ u : Nat, u < k → vl 0 (Lib.decDigits u) = u ∧ Digs (Lib.decDigits u) ∧ Lib.decDigits u ≠ [] := by
  induction k with
  | zero => intro u h; omega
  | succ k ih =>
    intro u h
    by_cases hs : u < 10
    · rw [dec_one u hs]
      refine ⟨?_, digs_dg u hs, by simp⟩
      show 0 * 10 + ((dg1 u).toNat - 48) = u
      rw [dg1_nat u hs]; omega
    · obtain ⟨h1, h2, h3⟩ := ih (u / 10) (by omega)
      rw [dec_more u hs]
      refine ⟨?_, digs_append h2 (digs_dg _ (by omega)), by simp⟩
      rw [vl_append, h1]
      show u / 10 * 10 + ((dg1 (u % 10)).toNat - 48) = u
      rw [dg1_nat _ (by omega)]; omega
theorem digs3 (m : Nat) : Digs (dig3 m) := by
  have := digs_append (digs_dg (m / 100 % 10) (by omega)) (digs_append (digs_dg (m / 10 % 10) (by omega)) (digs_dg (m % 10) (by omega)))
  exact this
theorem vl3 (a m : Nat) : vl a (dig3 m) = a * 1000 + m % 1000 := by
  show ((a * 10 + ((dg1 (m / 100 % 10)).toNat - 48)) * 10 + ((dg1 (m / 10 % 10)).toNat - 48)) * 10 + ((dg1 (m % 10)).toNat - 48) = _
  rw [dg1_nat _ (by omega), dg1_nat _ (by omega), dg1_nat _ (by omega)]; omega
theorem parse_mag (m : Nat) (h : m ≤ 1000000000000) : Lib.parseUintB 64 (Lib.decDigits (m / 1000) ++ dig3 m) = .ok m := by
  obtain ⟨h1, h2, h3⟩ := dec_read (m / 1000 + 1) (m / 1000) (by omega)
  have hv : vl 0 (Lib.decDigits (m / 1000) ++ dig3 m) = m := by rw [vl_append, h1, vl3]; omega
  unfold Lib.parseUintB
  rw [if_neg (by simp [h3])]
  have := parse_digs (Lib.decDigits (m / 1000) ++ dig3 m) 0 (digs_append h2 (digs3 m)) (by rw [hv]; omega)
  rw [this, hv]
/-- a length's text without its dot reads as the length -/
theorem parse_neg (m : Nat) (h : m ≤ 1000000000000) : Lib.parseIntB 64 (45 :: (Lib.decDigits (m / 1000) ++ dig3 m)) = .ok (-(m : Int)) := by
  unfold Lib.parseIntB
  simp only []
  rw [if_pos (show UInt8.toNat 45 = 43 ∨ UInt8.toNat 45 = 45 from Or.inr rfl), parse_mag m h]
  simp only []
  rw [if_neg (by simp), if_neg (by omega), if_pos (show UInt8.toNat 45 = 45 from rfl)]
theorem parse_nn (m : Nat) (h : m ≤ 1000000000000) : Lib.parseIntB 64 (Lib.decDigits (m / 1000) ++ dig3 m) = .ok (m : Int) := by
  obtain ⟨h1, h2, h3⟩ := dec_read (m / 1000 + 1) (m / 1000) (by omega)
  have hm := parse_mag m h
  cases hl : Lib.decDigits (m / 1000) with
  | nil => exact absurd hl h3
  | cons c r =>
    have hc := h2 c (by rw [hl]; simp)
    rw [hl] at hm
    rw [List.cons_append] at hm ⊢
    unfold Lib.parseIntB
    simp only []
    rw [if_neg (by omega), hm]
    simp only []
    rw [if_neg (by omega), if_neg (by omega), if_neg (by omega)]
/-! the model's reading: the digits, wherever they stand -/
def dst (p : Int × Int) (c : UInt8) : Int × Int := if 48 ≤ c.toNat ∧ c.toNat ≤ 57 then (10 * p.1 + ((c.toNat : Int) - 48), p.2 + 1) else p
def dfold (l : List UInt8) : Int × Int := l.foldl dst (0, 0)
theorem dfold_snoc (l : List UInt8) (c : UInt8) : dfold (l ++ [c]) = dst (dfold l) c := by unfold dfold; rw [List.foldl_append]; rfl
theorem dst_digs (l : List UInt8) : ∀ p : Nat × Nat, Digs l → l.foldl dst ((p.1 : Int), (p.2 : Int)) = ((vl p.1 l : Int), ((p.2 + l.length : Nat) : Int)) := by
  induction l with
  | nil => intro p _; rfl
  | cons c l ih =>
    intro p hd
    have h1 := hd c (by simp)
    rw [List.foldl_cons]
    have e : dst ((p.1 : Int), (p.2 : Int)) c = (((p.1 * 10 + (c.toNat - 48) : Nat) : Int), ((p.2 + 1 : Nat) : Int)) := by
      unfold dst; rw [if_pos h1]; congr 1; omega
    rw [e]
    have := ih (p.1 * 10 + (c.toNat - 48), p.2 + 1) (fun c hc => hd c (by simp [hc]))
    rw [this]
    simp only [List.length_cons]
    rw [show p.2 + 1 + l.length = p.2 + (l.length + 1) by omega]
    rfl
theorem dfold_abs (m : Nat) (h : m ≤ 1000000000000) (pre : List UInt8) (hp : dfold pre = (0, 0)) : (dfold (pre ++ mAbs m)).1 = m ∧ (dfold (pre ++ mAbs m)).2 ≤ 13 := by
  obtain ⟨h1, h2, h3⟩ := dec_read (m / 1000 + 1) (m / 1000) (by omega)
  have hl' : (Lib.decDigits (m / 1000)).length ≤ 10 := dec_len1 9 (m / 1000) (by omega)
  have a1 : (Lib.decDigits (m / 1000)).foldl dst (0, 0) = (((m / 1000 : Nat) : Int), (((Lib.decDigits (m / 1000)).length : Nat) : Int)) := by
    have := dst_digs (Lib.decDigits (m / 1000)) (0, 0) h2
    rw [h1] at this; simpa using this
  have a3 := dst_digs (dig3 m) (m / 1000, (Lib.decDigits (m / 1000)).length) (digs3 m)
  unfold dfold at *
  rw [List.foldl_append, hp]
  unfold mAbs
  rw [List.foldl_append, List.foldl_append, a1]
  have a2 : List.foldl dst (((m / 1000 : Nat) : Int), (((Lib.decDigits (m / 1000)).length : Nat) : Int)) [46] = (((m / 1000 : Nat) : Int), (((Lib.decDigits (m / 1000)).length : Nat) : Int)) := by
    show dst _ 46 = _
    unfold dst; exact if_neg (by decide)
  rw [a2, a3, vl3]
  have e3 : (dig3 m).length = 3 := rfl
  simp only [e3]
  constructor <;> omega
/-- how many digits stand in a beginning is at most how many stand in all -/
theorem dst_snd (l : List UInt8) : ∀ p, p.2 ≤ (l.foldl dst p).2 := by
  induction l with
  | nil => intro p; exact Int.le_refl _
  | cons c l ih =>
    intro p
    rw [List.foldl_cons]
    have := ih (dst p c)
    have h : p.2 ≤ (dst p c).2 := by unfold dst; split <;> simp <;> omega
    omega
theorem dfold_take (l : List UInt8) (k : Nat) : (dfold (l.take k)).2 ≤ (dfold l).2 := by
  have := dst_snd (l.drop k) (dfold (l.take k))
  unfold dfold at *
  rw [← List.foldl_append, List.take_append_drop] at this
  exact this
/-- a beginning's number is bounded by its digits -/
theorem dfold_bd (l : List UInt8) : ∀ k : Nat, (dfold l).2 = k → 0 ≤ (dfold l).1 ∧ (dfold l).1 < 10 ^ k := by
  suffices H : ∀ (l : List UInt8) (p : Int × Int) (j : Nat), p.2 = j → 0 ≤ p.1 → p.1 < 10 ^ j → ∀ k : Nat, (l.foldl dst p).2 = k → 0 ≤ (l.foldl dst p).1 ∧ (l.foldl dst p).1 < 10 ^ k from
    fun k hk => H l (0, 0) 0 rfl (by decide) (by decide) k hk
  intro l
  induction l with
  | nil => intro p j hj h0 h1 k hk; simp at hk ⊢; obtain rfl : j = k := (by omega); exact ⟨h0, h1⟩
  | cons c l ih =>
    intro p j hj h0 h1 k hk
    rw [List.foldl_cons] at hk ⊢
    by_cases hc : 48 ≤ c.toNat ∧ c.toNat ≤ 57
    · have e : dst p c = (10 * p.1 + ((c.toNat : Int) - 48), p.2 + 1) := by unfold dst; rw [if_pos hc]
      rw [e] at hk ⊢
      have hp : (10 : Int) ^ (j + 1) = 10 ^ j * 10 := Int.pow_succ 10 j
      refine ih _ (j + 1) (by simp; omega) (by simp; omega) ?_ k hk
      show 10 * p.1 + ((c.toNat : Int) - 48) < 10 ^ (j + 1)
      omega
    · have e : dst p c = p := by unfold dst; rw [if_neg hc]
      rw [e] at hk ⊢
      exact ih p j hj h0 h1 k hk
theorem dfold_nn (l : List UInt8) : 0 ≤ (dfold l).2 := dst_snd l (0, 0)
theorem dfold_14 (l : List UInt8) (h : (dfold l).2 ≤ 14) : 0 ≤ (dfold l).1 ∧ (dfold l).1 < 100000000000000 := by
  have h0 := dfold_nn l
  obtain ⟨k, hk⟩ := Int.eq_ofNat_of_zero_le h0
  obtain ⟨a, b⟩ := dfold_bd l k hk
  have hk14 : k ≤ 14 := by omega
  have hp : (10 : Nat) ^ k ≤ 10 ^ 14 := Nat.pow_le_pow_right (by decide) hk14
  have hp' : ((10 ^ k : Nat) : Int) ≤ 100000000000000 := by
    have : (10 : Nat) ^ 14 = 100000000000000 := by decide
    omega
  rw [Int.natCast_pow] at hp'
  exact ⟨a, Int.lt_of_lt_of_le b hp'⟩
/-- 's is the text of some value' -/
def IsM (l : List UInt8) : Prop := ∃ v, isVB v = true ∧ mText v = l
theorem mText_head (v : Int) (hv : isVB v = true) : (∃ m : Nat, m ≤ 1000000000000 ∧ 0 < m ∧ v = -(m : Int) ∧ mText v = 45 :: mAbs m) ∨ (∃ m : Nat, m ≤ 1000000000000 ∧ v = (m : Int) ∧ mText v = mAbs m) := by
  obtain ⟨v0, v1⟩ := (isVB_iff v).1 hv
  by_cases h : v < 0
  · left
    refine ⟨v.natAbs, by omega, by omega, by omega, ?_⟩
    unfold mText; rw [if_pos hv, if_pos h]
  · right
    refine ⟨v.natAbs, by omega, by omega, ?_⟩
    unfold mText; rw [if_pos hv, if_neg h]
theorem mAbs_len (m : Nat) : 5 ≤ (mAbs m).length := by
  obtain ⟨h1, h2, h3⟩ := dec_read (m / 1000 + 1) (m / 1000) (by omega)
  have : 1 ≤ (Lib.decDigits (m / 1000)).length := List.length_pos_iff.2 h3
  unfold mAbs; simp [dig3]; omega
theorem mAbs_hd (m : Nat) : ∃ c r, mAbs m = c :: r ∧ 48 ≤ c.toNat ∧ c.toNat ≤ 57 := by
  obtain ⟨h1, h2, h3⟩ := dec_read (m / 1000 + 1) (m / 1000) (by omega)
  cases hl : Lib.decDigits (m / 1000) with
  | nil => exact absurd hl h3
  | cons c r =>
    have := h2 c (by rw [hl]; simp)
    exact ⟨c, r ++ [46] ++ dig3 m, by unfold mAbs; rw [hl]; simp, this.1, this.2⟩
/-- without its dot -/
def undot (l : List UInt8) : List UInt8 := l.take (l.length - 4) ++ l.drop (l.length - 3)
theorem undot_of (a b : List UInt8) (hb : b.length = 3) : undot (a ++ [46] ++ b) = a ++ b := by
  unfold undot
  have hl : (a ++ [46] ++ b).length = a.length + 4 := by simp [hb]
  rw [hl, show a.length + 4 - 4 = a.length by omega, show a.length + 4 - 3 = (a ++ [46]).length by simp]
  rw [List.drop_left, List.append_assoc, List.take_left]
theorem undot_parse (v : Int) (hv : isVB v = true) : Lib.parseIntB 64 (undot (mText v)) = .ok v ∧ 5 ≤ (mText v).length := by
  rcases mText_head v hv with ⟨m, hm, h0, rfl, ht⟩ | ⟨m, hm, rfl, ht⟩
  · rw [ht]
    refine ⟨?_, by have := mAbs_len m; simp; omega⟩
    have e : 45 :: mAbs m = (45 :: Lib.decDigits (m / 1000)) ++ [46] ++ dig3 m := by unfold mAbs; simp
    rw [e, undot_of _ _ rfl]
    exact parse_neg m hm
  · rw [ht]
    refine ⟨?_, mAbs_len m⟩
    unfold mAbs
    rw [undot_of _ _ rfl]
    exact parse_nn m hm
theorem dfold_text (v : Int) (hv : isVB v = true) : (dfold (mText v)).1 = v.natAbs ∧ (dfold (mText v)).2 ≤ 13 ∧ ((mText v).head? = some 45 ↔ v < 0) := by
  rcases mText_head v hv with ⟨m, hm, h0, rfl, ht⟩ | ⟨m, hm, rfl, ht⟩
  · rw [ht]
    have := dfold_abs m hm [45] rfl
    rw [List.singleton_append] at this
    exact ⟨by rw [this.1]; omega, this.2, by simp; omega⟩
  · rw [ht]
    have := dfold_abs m hm [] rfl
    rw [List.nil_append] at this
    refine ⟨by rw [this.1]; omega, this.2, ?_⟩
    obtain ⟨c, r, hc, h1, h2⟩ := mAbs_hd m
    rw [hc]
    constructor
    · intro h; simp at h; subst h; exact absurd h1 (by decide)
    · intro h; omega
end Go.Proofs.YtokipobjpinhmaaDoor
