/- Plain words of chapter 11: faults of channels, reports, permitted moves. No program in sight. -/
import Derived.Test.YtpeebgkgccacbaaTfM
namespace Go.Proofs.Ytpeebgkgccacbaa
set_option linter.unusedSimpArgs false
set_option linter.unusedVariables false
/-- a number of blocks -/
def nbB (B : Int) : Bool := decide (2 ≤ B) && decide (B ≤ 8)
theorem nbB_iff (B : Int) : nbB B = true ↔ 2 ≤ B ∧ B ≤ 8 := by unfold nbB; simp
theorem nbB_ok {B : Int} (h : 2 ≤ B) (h2 : B ≤ 8) : nbB B = true := (nbB_iff B).2 ⟨h, h2⟩
theorem nbB_no {B : Int} (h : ¬ (2 ≤ B ∧ B ≤ 8)) : nbB B = false := by rw [Bool.eq_false_iff]; intro g; exact h ((nbB_iff B).1 g)
/-- the three numbers of fault k, in a flat list -/
def ikb (l : List Int) (k : Nat) : Int := gx l (k * 3)
def ikc (l : List Int) (k : Nat) : Int := gx l (k * 3 + 1)
def ikv (l : List Int) (k : Nat) : Int := gx l (k * 3 + 2)
/-- a value that a channel reports -/
def ikR (v : Int) : Bool := v == 0 || v == 1
theorem ikR_iff (v : Int) : ikR v = true ↔ v = 0 ∨ v = 1 := by unfold ikR; simp
/-- a fault of B blocks -/
def ikF (B b c v : Int) : Bool := decide (0 ≤ b) && decide (b < B) && (decide (0 ≤ c) && decide (c < 2)) && ikR v
theorem ikF_iff (B b c v : Int) : ikF B b c v = true ↔ 0 ≤ b ∧ b < B ∧ 0 ≤ c ∧ c < 2 ∧ (v = 0 ∨ v = 1) := by unfold ikF; simp [ikR_iff, and_assoc]
theorem ikF_no {B b c v : Int} (h : ¬ (0 ≤ b ∧ b < B ∧ 0 ≤ c ∧ c < 2 ∧ (v = 0 ∨ v = 1))) : ikF B b c v = false := by rw [Bool.eq_false_iff]; intro g; exact h ((ikF_iff _ _ _ _).1 g)
/-- one of the first n faults is of channel c of block b -/
def ikS (l : List Int) (n : Nat) (b c : Int) : Bool := (List.range n).any fun j => ikb l j == b && ikc l j == c
theorem ikS_0 (l : List Int) (b c : Int) : ikS l 0 b c = false := rfl
theorem ikS_succ (l : List Int) (k : Nat) (b c : Int) : ikS l (k + 1) b c = (ikS l k b c || (ikb l k == b && ikc l k == c)) := by unfold ikS; rw [List.range_succ, List.any_append]; simp
theorem ikS_iff (l : List Int) (n : Nat) (b c : Int) : ikS l n b c = true ↔ ∃ j, j < n ∧ ikb l j = b ∧ ikc l j = c := by unfold ikS; simp
theorem ikS_hit {l : List Int} {n k : Nat} {b c : Int} (hk : k < n) (h : (ikb l k == b && ikc l k == c) = true) : ikS l n b c = true := (ikS_iff _ _ _ _).2 ⟨k, hk, by simpa using h⟩
/-- the first k are faults, each of its own channel -/
def ikK (B : Int) (l : List Int) (k : Nat) : Bool := (List.range k).all fun j => ikF B (ikb l j) (ikc l j) (ikv l j) && !ikS l j (ikb l j) (ikc l j)
theorem ikK_0 (B : Int) (l : List Int) : ikK B l 0 = true := rfl
theorem ikK_succ (B : Int) (l : List Int) (k : Nat) : ikK B l (k + 1) = (ikK B l k && (ikF B (ikb l k) (ikc l k) (ikv l k) && !ikS l k (ikb l k) (ikc l k))) := by unfold ikK; rw [List.range_succ, List.all_append]; simp
theorem ikK_iff (B : Int) (l : List Int) (n : Nat) : ikK B l n = true ↔ ∀ j, j < n → ikF B (ikb l j) (ikc l j) (ikv l j) = true ∧ ikS l j (ikb l j) (ikc l j) = false := by unfold ikK; simp
theorem ikK_no {B : Int} {l : List Int} {n k : Nat} (hk : k < n) (h : (ikF B (ikb l k) (ikc l k) (ikv l k) && !ikS l k (ikb l k) (ikc l k)) = false) : ikK B l n = false := by
  rw [Bool.eq_false_iff]; intro g
  obtain ⟨a, b⟩ := (ikK_iff _ _ _).1 g k hk
  rw [a, b] at h; simp at h
/-- faults of B blocks -/
def ikA (B : Int) (n : Nat) (l : List Int) : Bool := nbB B && decide (n ≤ 8) && ikK B l n
theorem ikA_iff (B : Int) (n : Nat) (l : List Int) : ikA B n l = true ↔ 2 ≤ B ∧ B ≤ 8 ∧ n ≤ 8 ∧ ikK B l n = true := by unfold ikA; simp [nbB_iff, and_assoc]
theorem ikA_no {B : Int} {n : Nat} {l : List Int} (h : ¬ (nbB B = true ∧ n ≤ 8)) : ikA B n l = false := by
  rw [Bool.eq_false_iff]; intro g
  obtain ⟨a, b, c, _⟩ := (ikA_iff _ _ _).1 g
  exact h ⟨nbB_ok a b, c⟩
theorem ikA_K {B : Int} {n : Nat} {l : List Int} (h : nbB B = true) (h8 : n ≤ 8) : ikA B n l = ikK B l n := by unfold ikA; rw [h, decide_eq_true h8]; simp
/-- the model's: with the greatest block M -/
def ikFs (M b c v : Int) : Bool := (decide (0 ≤ b) && decide (b ≤ M)) && (decide (0 ≤ c) && decide (c ≤ 1)) && (decide (0 ≤ v) && decide (v ≤ 1))
def ikKs (M : Int) (l : List Int) (k : Nat) : Bool := (List.range k).all fun j => ikFs M (ikb l j) (ikc l j) (ikv l j) && !ikS l j (ikb l j) (ikc l j)
theorem ikKs_succ (M : Int) (l : List Int) (k : Nat) : ikKs M l (k + 1) = (ikKs M l k && (ikFs M (ikb l k) (ikc l k) (ikv l k) && !ikS l k (ikb l k) (ikc l k))) := by unfold ikKs; rw [List.range_succ, List.all_append]; simp
theorem ikKs_iff (M : Int) (l : List Int) (n : Nat) : ikKs M l n = true ↔ ∀ j, j < n → ikFs M (ikb l j) (ikc l j) (ikv l j) = true ∧ ikS l j (ikb l j) (ikc l j) = false := by unfold ikKs; simp
theorem ikKs_no {M : Int} {l : List Int} {n k : Nat} (hk : k < n) (h : (ikFs M (ikb l k) (ikc l k) (ikv l k) && !ikS l k (ikb l k) (ikc l k)) = false) : ikKs M l n = false := by
  rw [Bool.eq_false_iff]; intro g
  obtain ⟨a, b⟩ := (ikKs_iff _ _ _).1 g k hk
  rw [a, b] at h; simp at h
theorem ikFs_eq (B b c v : Int) : ikFs (B - 1) b c v = ikF B b c v := by
  rw [Bool.eq_iff_iff, ikF_iff]; unfold ikFs; simp; omega
theorem ikKs_eq (B : Int) (l : List Int) (k : Nat) : ikKs (B - 1) l k = ikK B l k := by unfold ikKs ikK; simp only [ikFs_eq]
/-- the model's answer is the same -/
theorem ikA_ms (B M : Int) (n : Nat) (l : List Int) (hM : nbB B = true → M = B - 1) : (ikKs M l n && (nbB B && decide (n ≤ 8))) = ikA B n l := by
  unfold ikA
  cases h : nbB B
  · simp
  · rw [hM h, ikKs_eq, Bool.and_comm]
/-- how many of the first k faults are of block b and stuck at clear -/
def ikN (l : List Int) (k : Nat) (b : Int) : Nat := (List.range k).countP fun j => ikb l j == b && ikv l j == 0
theorem ikN_succ (l : List Int) (k : Nat) (b : Int) : ikN l (k + 1) b = ikN l k b + (if (ikb l k == b && ikv l k == 0) = true then 1 else 0) := by
  unfold ikN; rw [List.range_succ, List.countP_append, List.countP_singleton]
theorem ikN_le (l : List Int) (k : Nat) (b : Int) : ikN l k b ≤ k := by unfold ikN; exact Nat.le_trans List.countP_le_length (by simp)
theorem ikN_mono (l : List Int) (k m : Nat) (b : Int) (h : k ≤ m) : ikN l k b ≤ ikN l m b := by
  induction m with
  | zero => rw [show k = 0 by omega]; exact Nat.le_refl _
  | succ m ih =>
    by_cases e : k = m + 1
    · rw [e]; exact Nat.le_refl _
    · have := ih (by omega); rw [ikN_succ]; omega
def ikL (B : Int) (l : List Int) (k : Nat) : List Int := (nm B.toNat).map fun b => (ikN l k b : Int)
theorem ikL_len (B : Int) (l : List Int) (k : Nat) : (ikL B l k).length = B.toNat := by simp [ikL, nm]
theorem ikL_gx (B : Int) (l : List Int) (k b : Nat) (h : b < B.toNat) : gx (ikL B l k) b = ikN l k b := by
  rw [gx_of _ _ (by rw [ikL_len]; exact h)]; simp [ikL, nm]
theorem ikL_0 (B : Int) (l : List Int) : ikL B l 0 = List.replicate B.toNat 0 := by
  apply List.ext_getElem
  · simp [ikL_len]
  · intro i h1 h2; simp [ikL, nm, ikN]
theorem ikL_miss (B : Int) (l : List Int) (k : Nat) (h : ikv l k ≠ 0) : ikL B l (k + 1) = ikL B l k := by
  unfold ikL
  refine List.map_congr_left fun b _ => ?_
  rw [ikN_succ, if_neg (by simp; intro _; exact h)]; rfl
theorem ikL_hit (B : Int) (l : List Int) (k b : Nat) (hb : b < B.toNat) (h : ikv l k = 0) (e : ikb l k = (b : Int)) : ikL B l (k + 1) = (ikL B l k).set b (gx (ikL B l k) b + 1) := by
  apply List.ext_getElem
  · simp [ikL_len]
  · intro i h1 h2
    have hi : i < B.toNat := by rw [ikL_len] at h1; exact h1
    rw [← gx_of _ _ h1, ikL_gx _ _ _ _ hi, List.getElem_set, ← gx_of _ _ (by rw [ikL_len]; exact hi), ikL_gx _ _ _ _ hi, ikL_gx _ _ _ _ hb, ikN_succ, e, h]
    by_cases q : b = i
    · subst q; simp
    · have q' : ((b : Int) == (i : Int)) = false := by simp; omega
      rw [q', if_neg q]; simp
/-- the faults are tolerated -/
def ikTl (B : Int) (n : Nat) (l : List Int) : Bool := (nm B.toNat).all fun b => decide (ikN l n b ≤ 1)
def ikT (B : Int) (n : Nat) (l : List Int) : Bool := ikA B n l && ikTl B n l
theorem ikTl_iff (B : Int) (n : Nat) (l : List Int) : ikTl B n l = true ↔ ∀ b : Nat, b < B.toNat → ikN l n b ≤ 1 := by
  unfold ikTl; rw [List.all_eq_true]
  constructor
  · intro h b hb; simpa using h (b : Int) ((nm_mem _ _).2 ⟨b, hb, rfl⟩)
  · intro h x hx; obtain ⟨j, hj, rfl⟩ := (nm_mem _ _).1 hx; simpa using h j hj
/-- the model's: no two of them are stuck at clear in one block -/
def ikP (l : List Int) (i k : Nat) : Bool := ikb l k == ikb l i && (ikv l k == 0 && ikv l i == 0)
def ikPi (l : List Int) (i k : Nat) : Bool := (List.range k).all fun j => !ikP l i j
def ikPK (l : List Int) (n : Nat) : Bool := (List.range n).all fun i => ikPi l i i
theorem ikPi_succ (l : List Int) (i k : Nat) : ikPi l i (k + 1) = (ikPi l i k && !ikP l i k) := by unfold ikPi; rw [List.range_succ, List.all_append]; simp
theorem ikPK_succ (l : List Int) (n : Nat) : ikPK l (n + 1) = (ikPK l n && ikPi l n n) := by unfold ikPK; rw [List.range_succ, List.all_append]; simp
theorem ikPi_iff (l : List Int) (i k : Nat) : ikPi l i k = true ↔ ∀ j, j < k → ikP l i j = false := by unfold ikPi; simp
theorem ikPK_iff (l : List Int) (n : Nat) : ikPK l n = true ↔ ∀ i, i < n → ∀ j, j < i → ikP l i j = false := by unfold ikPK; simp [ikPi_iff]
theorem ikPK_no {l : List Int} {n i j : Nat} (hi : i < n) (hj : j < i) (h : ikP l i j = true) : ikPK l n = false := by
  rw [Bool.eq_false_iff]; intro g; have := (ikPK_iff _ _).1 g i hi j hj; rw [h] at this; cases this
theorem ikN_PK {l : List Int} {n : Nat} (h : ikPK l n = true) (b : Int) : ikN l n b ≤ 1 := by
  induction n with
  | zero => exact Nat.zero_le _
  | succ n ih =>
    rw [ikPK_succ] at h
    simp only [Bool.and_eq_true] at h
    have h0 := ih h.1
    rw [ikN_succ]
    by_cases e : (ikb l n == b && ikv l n == 0) = true
    · rw [if_pos e]
      have hz : ikN l n b = 0 := by
        unfold ikN
        rw [List.countP_eq_zero]
        intro j hj hc
        have := (ikPi_iff _ _ _).1 h.2 j (List.mem_range.1 hj)
        simp at e hc
        unfold ikP at this
        rw [hc.1, hc.2, e.1, e.2] at this
        simp at this
      omega
    · rw [if_neg e]; omega
theorem ikT_ms (B : Int) (n : Nat) (l : List Int) : (ikPK l n && ikA B n l) = ikT B n l := by
  unfold ikT
  cases h : ikA B n l
  · simp
  · obtain ⟨a1, a2, a3, a4⟩ := (ikA_iff _ _ _).1 h
    rw [Bool.and_true, Bool.true_and, Bool.eq_iff_iff, ikTl_iff, ikPK_iff]
    constructor
    · intro g b _; exact ikN_PK ((ikPK_iff _ _).2 g) b
    · intro g i hi j hj
      cases hp : ikP l i j
      · rfl
      · exfalso
        unfold ikP at hp
        simp at hp
        obtain ⟨p1, p2, p3⟩ := hp
        have hf := ((ikK_iff _ _ _).1 a4 i hi).1
        obtain ⟨f1, f2, _⟩ := (ikF_iff _ _ _ _).1 hf
        obtain ⟨b, hb⟩ := Int.eq_ofNat_of_zero_le f1
        have h1 := g b (by omega)
        have h2 := ikN_mono l (i + 1) n b (by omega)
        have h3 := ikN_mono l (j + 1) i b (by omega)
        rw [ikN_succ, if_pos (by simp; exact ⟨hb, p3⟩)] at h2
        rw [ikN_succ, if_pos (by simp; exact ⟨by rw [p1]; exact hb, p2⟩)] at h3
        omega
/-- a channel's values for B blocks -/
def rpA (l : List Int) (k : Nat) : Bool := (List.range k).all fun j => ikR (gx l j)
theorem rpA_succ (l : List Int) (k : Nat) : rpA l (k + 1) = (rpA l k && ikR (gx l k)) := by unfold rpA; rw [List.range_succ, List.all_append]; simp
theorem rpA_iff (l : List Int) (k : Nat) : rpA l k = true ↔ ∀ j, j < k → ikR (gx l j) = true := by unfold rpA; simp
theorem rpA_no {l : List Int} {n k : Nat} (hk : k < n) (h : ikR (gx l k) = false) : rpA l n = false := by
  rw [Bool.eq_false_iff]; intro g; have := (rpA_iff _ _).1 g k hk; rw [h] at this; cases this
def rpB (B : Int) (n : Nat) (l : List Int) : Bool := decide ((n : Int) = B) && rpA l n
theorem rpB_iff (B : Int) (n : Nat) (l : List Int) : rpB B n l = true ↔ (n : Int) = B ∧ rpA l n = true := by unfold rpB; simp
/-- the code of a report -/
def rpE (B : Int) (n1 n2 : Nat) (l1 l2 : List Int) : Int := if nbB B = true then (if (rpB B n1 l1 && rpB B n2 l2) = true then 0 else 2) else 1
theorem rpE_1 {B : Int} {n1 n2 : Nat} {l1 l2 : List Int} (h : nbB B = false) : rpE B n1 n2 l1 l2 = 1 := by unfold rpE; rw [h]; rfl
theorem rpE_2 {B : Int} {n1 n2 : Nat} {l1 l2 : List Int} (h : nbB B = true) (k : (rpB B n1 l1 && rpB B n2 l2) = false) : rpE B n1 n2 l1 l2 = 2 := by unfold rpE; rw [h, k]; rfl
theorem rpE_0 {B : Int} {n1 n2 : Nat} {l1 l2 : List Int} (h : nbB B = true) (k : (rpB B n1 l1 && rpB B n2 l2) = true) : rpE B n1 n2 l1 l2 = 0 := by unfold rpE; rw [h, k]; rfl
/-- a block that is clear by a report, and one whose channels differ -/
def clP (l1 l2 : List Int) (b : Int) : Bool := gx l1 b.toNat == 0 && gx l2 b.toNat == 0
def dsP (l1 l2 : List Int) (b : Int) : Bool := gx l1 b.toNat != gx l2 b.toNat
def smP (s : Int) (l1 l2 : List Int) (b : Int) : Bool := gx l1 b.toNat + gx l2 b.toNat == s
/-- the numbers below k that fulfil a condition -/
def ckL (p : Int → Bool) (k : Nat) : List Int := (nm k).filter p
theorem ckL_0 (p : Int → Bool) : ckL p 0 = [] := rfl
theorem ckL_succ (p : Int → Bool) (k : Nat) : ckL p (k + 1) = ckL p k ++ (if p k = true then [(k : Int)] else []) := by
  unfold ckL; rw [nm_succ, List.filter_append]; simp [List.filter_cons]
theorem ckL_len (p : Int → Bool) (k : Nat) : (ckL p k).length ≤ k := by unfold ckL; exact Nat.le_trans (List.length_filter_le _ _) (by rw [nm_len]; exact Nat.le_refl _)
theorem ckL_mem (p : Int → Bool) (k : Nat) (x : Int) : x ∈ ckL p k ↔ ∃ j : Nat, j < k ∧ (j : Int) = x ∧ p j = true := by
  unfold ckL; rw [List.mem_filter, nm_mem]
  constructor
  · rintro ⟨⟨j, hj, rfl⟩, h⟩; exact ⟨j, hj, rfl, h⟩
  · rintro ⟨j, hj, rfl, h⟩; exact ⟨⟨j, hj, rfl⟩, h⟩
theorem rp_at {l : List Int} {n b : Nat} (h : rpA l n = true) (hb : b < n) : gx l b = 0 ∨ gx l b = 1 := (ikR_iff _).1 ((rpA_iff _ _).1 h b hb)
theorem clP_sm {l1 l2 : List Int} {n : Nat} (h1 : rpA l1 n = true) (h2 : rpA l2 n = true) {b : Nat} (hb : b < n) : smP 0 l1 l2 b = clP l1 l2 b := by
  have a := rp_at h1 hb; have c := rp_at h2 hb
  unfold smP clP
  rw [Int.toNat_natCast, Bool.eq_iff_iff]; simp; omega
theorem dsP_sm {l1 l2 : List Int} {n : Nat} (h1 : rpA l1 n = true) (h2 : rpA l2 n = true) {b : Nat} (hb : b < n) : smP 1 l1 l2 b = dsP l1 l2 b := by
  have a := rp_at h1 hb; have c := rp_at h2 hb
  unfold smP dsP
  rw [Int.toNat_natCast, Bool.eq_iff_iff]; simp; omega
theorem ckL_congr {p q : Int → Bool} {k : Nat} (h : ∀ b : Nat, b < k → p b = q b) : ckL p k = ckL q k := by
  unfold ckL
  refine List.filter_congr fun x hx => ?_
  obtain ⟨j, hj, rfl⟩ := (nm_mem _ _).1 hx
  exact h j hj
/-- a move of train t is permitted by a report -/
def nxB (B p : Int) : Int := (p / 3 + 1) % B
def pmP (B : Int) (l l1 l2 : List Int) (t : Int) : Bool := gx l t.toNat % 3 != 1 || clP l1 l2 (nxB B (gx l t.toNat))
end Go.Proofs.Ytpeebgkgccacbaa
