/- Plain words of chapter 8: lists of devices, runs of segments with devices that are on. No program in sight. -/
import Derived.Test.YtdhoiiejcmnmbaaLnM
namespace Go.Proofs.Ytdhoiiejcmnmbaa
set_option linter.unusedSimpArgs false
set_option linter.unusedVariables false
/-- a segment without its device -/
def pln (x : Sg) : Sg := ⟨0, x.l, x.r, x.a, x.b, 0, 0⟩
theorem pln_ok (x : Sg) (h : sgB x = true) : sgB (pln x) = true := by
  rw [sgB_iff] at h ⊢
  obtain ⟨_, h2, h3, h4, _⟩ := h
  exact ⟨by simp [pln], h2, h3, h4, by simp [pln]⟩
theorem chL_pln (x : Sg) : chL (pln x) = chL x := rfl
theorem chH_pln (x : Sg) : chH (pln x) = chH x := rfl
theorem acL_pln (x : Sg) (a : Int) : acL (pln x) a = a + chL x := rfl
theorem acH_pln (x : Sg) (b : Int) : acH (pln x) b = b + chH x := rfl
/-- 'this list are devices of a valid layout' -/
def knB (L : List Sg) (on : List Int) : Bool := on.all fun j => !decide ((sx L j.toNat).k = 0)
def dvB (L : List Sg) (on : List Int) : Bool := risB on L.length && knB L on
/-- a segment of a run, its device off unless the list names it -/
def dvS (L : List Sg) (on : List Int) (j : Nat) : Sg := if on.contains (j : Int) = true then sx L j else pln (sx L j)
def runD (L : List Sg) (on : List Int) (f c : Nat) : List Sg := (List.range c).map fun i => dvS L on ((f + i) % L.length)
theorem runD_len (L : List Sg) (on : List Int) (f c : Nat) : (runD L on f c).length = c := by simp [runD]
theorem runD_at (L : List Sg) (on : List Int) (f c i : Nat) (h : i < c) : sx (runD L on f c) i = dvS L on ((f + i) % L.length) := by
  rw [sx_of _ _ (by rw [runD_len]; exact h)]; simp [runD]
theorem dvS_ok (L : List Sg) (on : List Int) (j : Nat) (h : okB L L.length = true) (hj : j < L.length) : sgB (dvS L on j) = true := by
  have := okB_at L L.length j (Nat.le_refl _) hj h
  unfold dvS
  split
  · exact this
  · exact pln_ok _ this
theorem runD_okB (L : List Sg) (on : List Int) (f c : Nat) (h : okB L L.length = true) (hn : 0 < L.length) : okB (runD L on f c) (runD L on f c).length = true := by
  unfold okB
  rw [List.take_length, List.all_eq_true]
  intro x hx
  obtain ⟨i, _, rfl⟩ := List.mem_map.1 hx
  exact dvS_ok L on _ h (Nat.mod_lt _ hn)
/-- the energy before segment k of a run -/
def nxL (R : List Sg) (a : Int) : Nat → Int
  | 0 => a
  | k + 1 => acL (sx R k) (nxL R a k)
def nxH (R : List Sg) (b : Int) : Nat → Int
  | 0 => b
  | k + 1 => acH (sx R k) (nxH R b k)
theorem nxL_0 (R : List Sg) (a : Int) : nxL R a 0 = a := rfl
theorem nxH_0 (R : List Sg) (a : Int) : nxH R a 0 = a := rfl
theorem nxL_succ (R : List Sg) (a : Int) (k : Nat) : nxL R a (k + 1) = acL (sx R k) (nxL R a k) := rfl
theorem nxH_succ (R : List Sg) (a : Int) (k : Nat) : nxH R a (k + 1) = acH (sx R k) (nxH R a k) := rfl
/-- the code of the energy behind segment k -/
def ncK (R : List Sg) (a b : Int) (k : Nat) : Int := codE (nxL R a (k + 1)) (nxH R b (k + 1))
def nlE (R : List Sg) (a b : Int) (k : Nat) : Int := fstB (ncK R a b) k
/-- the energies behind the first k segments, their bounds one behind the other -/
def nfF (R : List Sg) (a b : Int) (k : Nat) : List Int := (List.range k).flatMap fun j => [nxL R a (j + 1), nxH R b (j + 1)]
theorem nfF_0 (R : List Sg) (a b : Int) : nfF R a b 0 = [] := rfl
theorem nfF_succ (R : List Sg) (a b : Int) (k : Nat) : nfF R a b (k + 1) = nfF R a b k ++ [nxL R a (k + 1), nxH R b (k + 1)] := by
  unfold nfF; rw [List.range_succ, List.flatMap_append]; simp
theorem nfF_len (R : List Sg) (a b : Int) (k : Nat) : (nfF R a b k).length = k * 2 := by
  induction k with
  | zero => rfl
  | succ k ih => rw [nfF_succ, List.length_append, ih]; simp; omega
/-- as long as no code is bad, each energy is one -/
theorem nx_en (R : List Sg) (a b : Int) (hab : enB a b = true) (hR : okB R R.length = true) (k : Nat) (hk : k ≤ R.length) (h : nlE R a b k = 0) : enB (nxL R a k) (nxH R b k) = true := by
  induction k with
  | zero => exact hab
  | succ k ih =>
    have h2 := (fstB_zero _ _).1 h
    have h3 : nlE R a b k = 0 := (fstB_zero _ _).2 (fun j hj => h2 j (by omega))
    have h4 := ih (by omega) h3
    have h5 := ac_bd (sx R k) _ _ (okB_at R R.length k (Nat.le_refl _) (by omega) hR) h4
    have h6 := codE_ok _ _ (h2 k (by omega))
    rw [enB_iff, nxL_succ, nxH_succ]
    rw [nxL_succ, nxH_succ] at h6
    omega
/-- how many codes at the beginning are 0 -/
def stpN (f : Nat → Int) : Nat → Nat
  | 0 => 0
  | n + 1 => if fstB f n = 0 then (if f n = 0 then n + 1 else n) else stpN f n
theorem stpN_all (f : Nat → Int) (n : Nat) (h : fstB f n = 0) : stpN f n = n := by
  cases n with
  | zero => rfl
  | succ n =>
    have h2 := (fstB_zero _ _).1 h
    unfold stpN
    rw [if_pos ((fstB_zero _ _).2 (fun j hj => h2 j (by omega))), if_pos (h2 n (by omega))]
theorem stpN_stop (f : Nat → Int) (n k : Nat) (h : fstB f k = 0) (hk : k < n) (hc : f k ≠ 0) : stpN f n = k := by
  obtain ⟨m, rfl⟩ : ∃ m, n = k + 1 + m := ⟨n - (k + 1), by omega⟩
  clear hk
  induction m with
  | zero => show stpN f (k + 1) = k; unfold stpN; rw [if_pos h, if_neg hc]
  | succ m ih =>
    show stpN f (k + 1 + m + 1) = k
    unfold stpN
    rw [if_neg (by rw [fstB_stop f (k + 1 + m) k h (by omega) hc]; exact hc)]
    exact ih
theorem stpN_le (f : Nat → Int) (n : Nat) : stpN f n ≤ n := by
  induction n with
  | zero => exact Nat.le_refl _
  | succ n ih =>
    unfold stpN
    split
    · split <;> omega
    · omega
theorem stpN_zero (f : Nat → Int) (n : Nat) : fstB f (stpN f n) = 0 := by
  induction n with
  | zero => rfl
  | succ n ih =>
    unfold stpN
    split
    · rename_i h
      split
      · rename_i h2; rw [fstB_succ f n h]; exact h2
      · exact h
    · exact ih
/-- runs with devices: the code of what comes in; code, number and bounds of the energies; the first doubt -/
def arE (L : List Sg) (f c a b : Int) (on : List Int) : Int := if enB a b = true then (if sgE L f c = 0 then (if dvB L on = true then 0 else 2) else sgE L f c) else 1
def adE (L : List Sg) (f c a b : Int) (on : List Int) : Int := if arE L f c a b on = 0 then nlE (runD L on f.toNat c.toNat) a b c.toNat else arE L f c a b on
def adN (L : List Sg) (f c a b : Int) (on : List Int) : Nat := if adE L f c a b on = 0 then c.toNat else 0
def adV (L : List Sg) (f c a b : Int) (on : List Int) : List Int := if adE L f c a b on = 0 then nfF (runD L on f.toNat c.toNat) a b c.toNat else []
def fdV (L : List Sg) (f c a b : Int) (on : List Int) : Int := okV (arE L f c a b on) (if nlE (runD L on f.toNat c.toNat) a b c.toNat = 0 then -1 else (stpN (ncK (runD L on f.toNat c.toNat) a b) c.toNat : Int))
theorem arE_ok {L : List Sg} {f c a b : Int} {on : List Int} (h : arE L f c a b on = 0) : enB a b = true ∧ sgE L f c = 0 ∧ dvB L on = true := by
  unfold arE at h
  split at h
  · split at h
    · split at h
      · exact ⟨by assumption, by assumption, by assumption⟩
      · cases h
    · contradiction
  · cases h
/-- without devices: the sums along the run -/
theorem dvS_nil (L : List Sg) (j : Nat) : dvS L [] j = pln (sx L j) := by simp [dvS]
theorem nx_nil (L : List Sg) (f c : Nat) (a b : Int) (k : Nat) (hk : k ≤ c) : nxL (runD L [] f c) a k = a + clL (runS L f c) k ∧ nxH (runD L [] f c) b k = b + clH (runS L f c) k := by
  induction k with
  | zero => simp [nxL_0, nxH_0, clL_0, clH_0]
  | succ k ih =>
    obtain ⟨i1, i2⟩ := ih (by omega)
    rw [nxL_succ, nxH_succ, i1, i2, runD_at L [] f c k (by omega), dvS_nil, acL_pln, acH_pln, clL_succ _ _ (by rw [runS_len]; omega), clH_succ _ _ (by rw [runS_len]; omega), runS_at L f c k (by omega)]
    omega
theorem nl_nil (L : List Sg) (f c : Nat) (a b : Int) (k : Nat) (hk : k ≤ c) : nlE (runD L [] f c) a b k = alE (runS L f c) a b k := by
  unfold nlE alE
  refine fstB_congr _ _ _ (fun j hj => ?_)
  unfold ncK cdK
  obtain ⟨e1, e2⟩ := nx_nil L f c a b (j + 1) (by omega)
  rw [e1, e2]
theorem nf_nil (L : List Sg) (f c : Nat) (a b : Int) (k : Nat) (hk : k ≤ c) : nfF (runD L [] f c) a b k = flF (runS L f c) a b k := by
  induction k with
  | zero => rfl
  | succ k ih =>
    obtain ⟨e1, e2⟩ := nx_nil L f c a b (k + 1) hk
    rw [nfF_succ, flF_succ, ih (by omega), e1, e2]
theorem dvB_nil (L : List Sg) : dvB L [] = true := by simp [dvB, knB, risB]
/-- runs that begin alike -/
theorem nx_pre (L : List Sg) (on : List Int) (f c d : Nat) (hd : d ≤ c) (a : Int) (k : Nat) (hk : k ≤ d) : nxL (runD L on f d) a k = nxL (runD L on f c) a k ∧ nxH (runD L on f d) a k = nxH (runD L on f c) a k := by
  induction k with
  | zero => exact ⟨rfl, rfl⟩
  | succ k ih =>
    obtain ⟨i1, i2⟩ := ih (by omega)
    rw [nxL_succ, nxH_succ, nxL_succ, nxH_succ, i1, i2, runD_at L on f d k (by omega), runD_at L on f c k (by omega)]
    exact ⟨rfl, rfl⟩
theorem nl_pre (L : List Sg) (on : List Int) (f c d : Nat) (hd : d ≤ c) (a b : Int) (k : Nat) (hk : k ≤ d) : nlE (runD L on f d) a b k = nlE (runD L on f c) a b k := by
  unfold nlE
  refine fstB_congr _ _ _ (fun j hj => ?_)
  unfold ncK
  rw [(nx_pre L on f c d hd a (j + 1) (by omega)).1, (nx_pre L on f c d hd b (j + 1) (by omega)).2]
/-- what the law on runs with devices says -/
theorem dr_nil {L : List Sg} {f c a b : Int} {on : List Int} (h : arE L f c a b on = 0) :
    adE L f c a b [] = eaE L f c a b ∧ adN L f c a b [] = eaN L f c a b ∧ adV L f c a b [] = eaV L f c a b := by
  obtain ⟨h1, h2, h3⟩ := arE_ok h
  obtain ⟨h4, f', c', rfl, rfl, h5, h6⟩ := sgE_ok h2
  have e0 : arE L f' c' a b [] = 0 := by unfold arE; rw [if_pos h1, if_pos h2, dvB_nil]; rfl
  have e1 : adE L f' c' a b [] = eaE L f' c' a b := by
    unfold adE eaE
    rw [if_pos e0, if_pos h1, if_pos h2]
    exact nl_nil L _ _ a b _ (Nat.le_refl _)
  refine ⟨e1, by unfold adN eaN; rw [e1], ?_⟩
  unfold adV eaV
  rw [e1]
  split
  · exact nf_nil L _ _ a b _ (Nat.le_refl _)
  · rfl
theorem dr_first {L : List Sg} {f c a b : Int} {on : List Int} (h : arE L f c a b on = 0) : (fdV L f c a b on < 0 ↔ adE L f c a b on = 0) ∧ (adE L f c a b on ≠ 0 → ∃ k : Nat, k ≤ 24 ∧ fdV L f c a b on = (k : Int) ∧ adE L f (fdV L f c a b on) a b on = 0 ∧ adN L f (fdV L f c a b on) a b on = k) := by
  obtain ⟨h1, h2, h3⟩ := arE_ok h
  obtain ⟨h4, f', c', rfl, rfl, h5, h6⟩ := sgE_ok h2
  have e0 : adE L f' c' a b on = nlE (runD L on f' c') a b c' := by unfold adE; rw [if_pos h]; rfl
  have e1 : fdV L f' c' a b on = if nlE (runD L on f' c') a b c' = 0 then -1 else (stpN (ncK (runD L on f' c') a b) c' : Int) := by
    unfold fdV okV; rw [if_pos h]; rfl
  rw [e0]
  by_cases hz : nlE (runD L on f' c') a b c' = 0
  · rw [if_pos hz] at e1
    exact ⟨⟨fun _ => hz, fun _ => by omega⟩, fun g => absurd hz g⟩
  · rw [if_neg hz] at e1
    refine ⟨⟨fun g => by omega, fun g => absurd g hz⟩, fun _ => ⟨_, ?_, e1, ?_⟩⟩
    · have := stpN_le (ncK (runD L on f' c') a b) c'; omega
    · rw [e1]
      generalize hk : stpN (ncK (runD L on f' c') a b) c' = k
      have hkc : k ≤ c' := by rw [← hk]; exact stpN_le _ _
      have hkz : nlE (runD L on f' c') a b k = 0 := by rw [← hk]; exact stpN_zero _ _
      have g1 : sgE L (f' : Int) (k : Int) = 0 := by unfold sgE; rw [if_pos h4, if_pos (by omega)]
      have g2 : arE L f' k a b on = 0 := by unfold arE; rw [if_pos h1, if_pos g1, if_pos h3]
      have g3 : adE L f' k a b on = 0 := by
        unfold adE; rw [if_pos g2]
        show nlE (runD L on f' k) a b k = 0
        rw [nl_pre L on f' c' k hkc a b k (Nat.le_refl _)]; exact hkz
      exact ⟨g3, by unfold adN; rw [if_pos g3]; rfl⟩
end Go.Proofs.Ytdhoiiejcmnmbaa
