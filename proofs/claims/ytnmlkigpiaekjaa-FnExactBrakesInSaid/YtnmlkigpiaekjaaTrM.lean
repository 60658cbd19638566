/- Sets of brakes in plain words: which segments of a run are brakes, as a walk along the run gathers them and as the list of all indices tells them. -/
import Derived.Test.YtnmlkigpiaekjaaEnP
import Derived.Test.YtnmlkigpiaekjaaMathL
import Derived.Test.YtnmlkigpiaekjaaSl
namespace Go.Proofs.Ytnmlkigpiaekjaa
set_option maxHeartbeats 2000000
set_option linter.unusedVariables false
/-- the set s with r -/
def updB (s : Nat → Bool) (r : Nat) : Nat → Bool := fun j => if j = r then true else s j
theorem updB_at (s : Nat → Bool) (r : Nat) : updB s r r = true := by simp [updB]
theorem updB_ne (s : Nat → Bool) (r j : Nat) (h : j ≠ r) : updB s r j = s j := by simp [updB, h]
/-- the brakes among the first k segments of a run -/
def bsK (L : List Sg) (f : Nat) : Nat → Nat → Bool
  | 0 => fun _ => false
  | k + 1 => if (sx L ((f + k) % L.length)).k = 3 then updB (bsK L f k) ((f + k) % L.length) else bsK L f k
/-- the elements of a set below k -/
def lsK (s : Nat → Bool) : Nat → List Int
  | 0 => []
  | k + 1 => if s k = true then lsK s k ++ [(k : Int)] else lsK s k
theorem lsK_congr {s t : Nat → Bool} : ∀ k, (∀ j, j < k → s j = t j) → lsK s k = lsK t k
  | 0, _ => rfl
  | k + 1, h => by unfold lsK; rw [lsK_congr k (fun j hj => h j (by omega)), h k (by omega)]
theorem lsK_len (s : Nat → Bool) : ∀ k, (lsK s k).length ≤ k
  | 0 => by simp [lsK]
  | k + 1 => by
    have := lsK_len s k
    unfold lsK
    split
    · simp; omega
    · omega
theorem lsK_in (s : Nat → Bool) : ∀ k, k ≤ 1000000 → ∀ x ∈ lsK s k, InR x
  | 0, _, x, hx => by simp [lsK] at hx
  | k + 1, h, x, hx => by
    unfold lsK at hx
    split at hx
    · rcases List.mem_append.1 hx with hx | hx
      · exact lsK_in s k (by omega) x hx
      · simp at hx; subst hx; constructor <;> omega
    · exact lsK_in s k (by omega) x hx
theorem lsK_more {s : Nat → Bool} {n : Nat} (h : ∀ j, n ≤ j → s j = false) : ∀ m, n ≤ m → lsK s m = lsK s n
  | 0, hm => by obtain rfl : n = 0 := by omega
                rfl
  | m + 1, hm => by
    by_cases e : n = m + 1
    · rw [e]
    · have : lsK s (m + 1) = lsK s m := by
        show (if s m = true then lsK s m ++ [(m : Int)] else lsK s m) = _
        rw [h m (by omega)]; rfl
      rw [this, lsK_more h m (by omega)]
/-- the place of the k-th segment of a run -/
theorem idx_cases {n f k : Nat} (hf : f < n) (hk : k < n) : (f + k) % n = if f + k < n then f + k else f + k - n := by
  split
  · rw [Nat.mod_eq_of_lt (by omega)]
  · rename_i h
    rw [Nat.mod_eq_sub_mod (by omega), Nat.mod_eq_of_lt (by omega)]
theorem back_cases {n f j : Nat} (hf : f < n) (hj : j < n) : ((j : Int) - f) % (n : Int) = if f ≤ j then (j : Int) - f else (j : Int) - f + n := by
  split
  · rw [Int.emod_eq_of_lt (by omega) (by omega)]
  · rw [← Int.add_emod_right, Int.emod_eq_of_lt (by omega) (by omega)]
theorem bsK_iff (L : List Sg) (f : Nat) (hf : f < L.length) : ∀ c, c ≤ L.length → ∀ j, j < L.length → (bsK L f c j = true ↔ (sx L j).k = 3 ∧ ((j : Int) - f) % (L.length : Int) < c)
  | 0, _, j, hj => by
    have := back_cases hf hj
    constructor
    · intro h; cases h
    · rintro ⟨_, h⟩
      split at this <;> omega
  | c + 1, hc, j, hj => by
    have ih := bsK_iff L f hf c (by omega) j hj
    have e1 := back_cases hf hj
    have e2 := idx_cases hf (show c < L.length by omega)
    have key : ((j : Int) - f) % (L.length : Int) = c ↔ j = (f + c) % L.length := by
      split at e1 <;> split at e2 <;> omega
    unfold bsK
    generalize hm : ((j : Int) - f) % (L.length : Int) = m at *
    generalize hr : (f + c) % L.length = r at *
    by_cases hj2 : j = r
    · have hm : m = c := key.2 hj2
      subst hj2
      split
      · rename_i h3
        constructor
        · intro _; exact ⟨h3, by omega⟩
        · intro _; exact updB_at _ _
      · rename_i h3
        rw [ih]
        constructor
        · rintro ⟨h4, _⟩; exact absurd h4 h3
        · rintro ⟨h4, _⟩; exact absurd h4 h3
    · have hm : m ≠ c := fun e => hj2 (key.1 e)
      have e : (if (sx L r).k = 3 then updB (bsK L f c) r else bsK L f c) j = bsK L f c j := by
        split
        · exact updB_ne _ _ _ hj2
        · rfl
      rw [e, ih]
      constructor
      · rintro ⟨h1, h2⟩; exact ⟨h1, by omega⟩
      · rintro ⟨h1, h2⟩; exact ⟨h1, by omega⟩
theorem bsK_far (L : List Sg) (f : Nat) (h0 : 0 < L.length) : ∀ c j, L.length ≤ j → bsK L f c j = false
  | 0, _, _ => rfl
  | c + 1, j, hj => by
    have ih := bsK_far L f h0 c j hj
    have hr : (f + c) % L.length < L.length := Nat.mod_lt _ h0
    unfold bsK
    split
    · rw [updB_ne _ _ _ (by omega)]; exact ih
    · exact ih
/-- whether a segment is a brake of a run, by its distance from the run's beginning -/
def mdS (L : List Sg) (f c : Int) (j : Nat) : Bool := decide ((sx L j).k = 3) && decide (((j : Int) - f) % (L.length : Int) < c)
/-- the code and the brakes of BrakesIn -/
def biE (L : List Sg) (f c : Int) : Int := if sgE L f c ≠ 0 then sgE L f c else if (L.length : Int) < c then 2 else 0
def biV (L : List Sg) (f c : Int) : List Int := if biE L f c = 0 then lsK (bsK L f.toNat c.toNat) 24 else []
theorem biV_len (L : List Sg) (f c : Int) : (biV L f c).length ≤ 24 := by
  unfold biV
  split
  · exact lsK_len _ 24
  · simp
theorem biV_model (L : List Sg) (f c : Nat) (hf : f < L.length) (hc : c ≤ L.length) (h24 : L.length ≤ 24) : lsK (bsK L f c) 24 = lsK (mdS L f c) L.length := by
  rw [lsK_more (n := L.length) (fun j hj => bsK_far L f (by omega) c j hj) 24 h24]
  refine lsK_congr _ fun j hj => ?_
  rw [Bool.eq_iff_iff, bsK_iff L f hf c hc j hj]
  unfold mdS
  rw [Bool.and_eq_true, decide_eq_true_iff, decide_eq_true_iff]
end Go.Proofs.Ytnmlkigpiaekjaa
