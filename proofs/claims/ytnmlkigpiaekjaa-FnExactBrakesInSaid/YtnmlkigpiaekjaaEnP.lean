/- Plain words of chapter 6: runs of segments, the sums along a run, the energies behind them, the energy that is needed. No program in sight. -/
import Derived.Test.YtnmlkigpiaekjaaEnM
namespace Go.Proofs.Ytnmlkigpiaekjaa
set_option linter.unusedSimpArgs false
set_option linter.unusedVariables false
/-- the segments of a run, counted around the circuit -/
def runS (L : List Sg) (f c : Nat) : List Sg := (List.range c).map fun i => sx L ((f + i) % L.length)
theorem runS_len (L : List Sg) (f c : Nat) : (runS L f c).length = c := by simp [runS]
theorem runS_0 (L : List Sg) (f : Nat) : runS L f 0 = [] := by simp [runS]
theorem runS_succ (L : List Sg) (f c : Nat) : runS L f (c + 1) = runS L f c ++ [sx L ((f + c) % L.length)] := by
  unfold runS; rw [List.range_succ, List.map_append]; rfl
theorem runS_at (L : List Sg) (f c i : Nat) (h : i < c) : sx (runS L f c) i = sx L ((f + i) % L.length) := by
  rw [sx_of _ _ (by rw [runS_len]; exact h)]; simp [runS]
theorem runS_okB (L : List Sg) (f c : Nat) (h : okB L L.length = true) (hn : 0 < L.length) : okB (runS L f c) (runS L f c).length = true := by
  unfold okB
  rw [List.take_length, List.all_eq_true]
  intro x hx
  obtain ⟨i, _, rfl⟩ := List.mem_map.1 hx
  exact okB_at L L.length _ (Nat.le_refl _) (Nat.mod_lt _ hn) h
/-- the code of a run -/
def sgE (L : List Sg) (f c : Int) : Int := if layB L = true then (if 0 ≤ f ∧ f < (L.length : Int) ∧ 0 ≤ c ∧ c ≤ 24 then 0 else 2) else 1
theorem sgE_ok {L : List Sg} {f c : Int} (h : sgE L f c = 0) : layB L = true ∧ ∃ f' c' : Nat, f = (f' : Int) ∧ c = (c' : Int) ∧ f' < L.length ∧ c' ≤ 24 := by
  unfold sgE at h
  split at h
  · split at h
    · rename_i h1 h2
      exact ⟨h1, f.toNat, c.toNat, by omega, by omega, by omega, by omega⟩
    · cases h
  · cases h
/-- the segments of a run, none if it has an error -/
def sgV (L : List Sg) (f c : Int) : List Sg := if sgE L f c = 0 then runS L f.toNat c.toNat else []
/-- the sums of the changes of the first k segments -/
def clL (R : List Sg) (k : Nat) : Int := ((R.take k).map chL).sum
def clH (R : List Sg) (k : Nat) : Int := ((R.take k).map chH).sum
theorem clL_0 (R : List Sg) : clL R 0 = 0 := by simp [clL]
theorem clH_0 (R : List Sg) : clH R 0 = 0 := by simp [clH]
theorem clL_succ (R : List Sg) (k : Nat) (h : k < R.length) : clL R (k + 1) = clL R k + chL (sx R k) := by
  unfold clL; rw [List.take_succ_eq_append_getElem h, List.map_append, List.sum_append, sx_of R k h]; simp
theorem clH_succ (R : List Sg) (k : Nat) (h : k < R.length) : clH R (k + 1) = clH R k + chH (sx R k) := by
  unfold clH; rw [List.take_succ_eq_append_getElem h, List.map_append, List.sum_append, sx_of R k h]; simp
theorem cl_bd (R : List Sg) (h : okB R R.length = true) (k : Nat) (hk : k ≤ R.length) : -9961200000 * (k : Int) ≤ clL R k ∧ clL R k ≤ clH R k ∧ clH R k ≤ 1961200000 * (k : Int) := by
  induction k with
  | zero => simp [clL_0, clH_0]
  | succ k ih =>
    have h1 := ch_bd (sx R k) (okB_at R R.length k (Nat.le_refl _) (by omega) h)
    have h2 := ih (by omega)
    rw [clL_succ R k (by omega), clH_succ R k (by omega)]
    omega
/-- the first of the codes f 0 .. f (n - 1) that is not 0 -/
def fstB (f : Nat → Int) : Nat → Int
  | 0 => 0
  | n + 1 => if fstB f n = 0 then f n else fstB f n
theorem fstB_succ (f : Nat → Int) (n : Nat) (h : fstB f n = 0) : fstB f (n + 1) = f n := by simp [fstB, h]
theorem fstB_stop (f : Nat → Int) (n k : Nat) (h : fstB f k = 0) (hk : k < n) (hc : f k ≠ 0) : fstB f n = f k := by
  obtain ⟨m, rfl⟩ : ∃ m, n = k + 1 + m := ⟨n - (k + 1), by omega⟩
  clear hk
  induction m with
  | zero => exact fstB_succ f k h
  | succ m ih =>
    show fstB f (k + 1 + m + 1) = f k
    unfold fstB
    rw [ih, if_neg hc]
theorem fstB_zero (f : Nat → Int) (n : Nat) : fstB f n = 0 ↔ ∀ k, k < n → f k = 0 := by
  induction n with
  | zero => simp [fstB]
  | succ n ih =>
    unfold fstB
    by_cases h : fstB f n = 0
    · rw [if_pos h]
      constructor
      · intro hn k hk
        by_cases e : k = n
        · rw [e]; exact hn
        · exact ih.1 h k (by omega)
      · intro hk; exact hk n (by omega)
    · rw [if_neg h]
      constructor
      · intro hn; exact absurd hn h
      · intro hk; exact ih.2 (fun k hkn => hk k (by omega))
theorem fstB_congr (f g : Nat → Int) (n : Nat) (h : ∀ k, k < n → f k = g k) : fstB f n = fstB g n := by
  induction n with
  | zero => rfl
  | succ n ih =>
    unfold fstB
    rw [ih (fun k hk => h k (by omega)), h n (by omega)]
/-- the code of the energy behind segment k of a run -/
def cdK (R : List Sg) (a b : Int) (k : Nat) : Int := codE (a + clL R (k + 1)) (b + clH R (k + 1))
/-- the code of the energies along a run -/
def alE (R : List Sg) (a b : Int) (k : Nat) : Int := fstB (cdK R a b) k
/-- the energies behind the first k segments, their bounds one behind the other -/
def flF (R : List Sg) (a b : Int) (k : Nat) : List Int := (List.range k).flatMap fun j => [a + clL R (j + 1), b + clH R (j + 1)]
theorem flF_0 (R : List Sg) (a b : Int) : flF R a b 0 = [] := rfl
theorem flF_succ (R : List Sg) (a b : Int) (k : Nat) : flF R a b (k + 1) = flF R a b k ++ [a + clL R (k + 1), b + clH R (k + 1)] := by
  unfold flF; rw [List.range_succ, List.flatMap_append]; simp
theorem flF_len (R : List Sg) (a b : Int) (k : Nat) : (flF R a b k).length = k * 2 := by
  induction k with
  | zero => rfl
  | succ k ih => rw [flF_succ, List.length_append, ih]; simp; omega
/-- the energies along a run: code, their number, their bounds -/
def eaE (L : List Sg) (f c a b : Int) : Int := if enB a b = true then (if sgE L f c = 0 then alE (runS L f.toNat c.toNat) a b c.toNat else sgE L f c) else 1
def eaN (L : List Sg) (f c a b : Int) : Nat := if eaE L f c a b = 0 then c.toNat else 0
def eaV (L : List Sg) (f c a b : Int) : List Int := if eaE L f c a b = 0 then flF (runS L f.toNat c.toNat) a b c.toNat else []
/-- the least energy with which a train surely passes the first k segments of a run -/
def ndN (R : List Sg) : Nat → Int
  | 0 => 0
  | k + 1 => max (ndN R k) (-clL R (k + 1))
theorem ndN_0 (R : List Sg) : ndN R 0 = 0 := rfl
theorem ndN_succ (R : List Sg) (k : Nat) : ndN R (k + 1) = max (ndN R k) (-clL R (k + 1)) := rfl
theorem ndN_bd (R : List Sg) (h : okB R R.length = true) (k : Nat) (hk : k ≤ R.length) : 0 ≤ ndN R k ∧ ndN R k ≤ 9961200000 * (k : Int) := by
  induction k with
  | zero => simp [ndN_0]
  | succ k ih =>
    have h1 := cl_bd R h (k + 1) hk
    have h2 := ih (by omega)
    rw [ndN_succ]
    omega
theorem ndN_ge (R : List Sg) (k j : Nat) (hj : j < k) : -clL R (j + 1) ≤ ndN R k := by
  induction k with
  | zero => omega
  | succ k ih =>
    rw [ndN_succ]
    by_cases e : j = k
    · subst e; omega
    · have := ih (by omega); omega
theorem ndN_is (R : List Sg) (k : Nat) : ndN R k = 0 ∨ ∃ j, j < k ∧ ndN R k = -clL R (j + 1) := by
  induction k with
  | zero => exact .inl rfl
  | succ k ih =>
    rw [ndN_succ]
    by_cases e : ndN R k ≤ -clL R (k + 1)
    · exact .inr ⟨k, by omega, by omega⟩
    · rcases ih with h | ⟨j, hj, h⟩
      · exact .inl (by omega)
      · exact .inr ⟨j, by omega, by omega⟩
/-- the energy that is needed and its code -/
def enE (L : List Sg) (f c : Int) : Int := if sgE L f c = 0 then (if ndN (runS L f.toNat c.toNat) c.toNat ≤ 10000000000 then 0 else 3) else sgE L f c
def enV (L : List Sg) (f c : Int) : Int := if enE L f c = 0 then ndN (runS L f.toNat c.toNat) c.toNat else 0
end Go.Proofs.Ytnmlkigpiaekjaa
