/- Plain facts of chapter 10's laws. -/
import Derived.Test.YtdaihpkjnigjgaaTfM
namespace Go.Proofs.Ytdaihpkjnigjgaa
set_option linter.unusedSimpArgs false
set_option maxRecDepth 100000
set_option linter.unusedVariables false
theorem al_mem (B : Int) (l : List Int) (j : Nat) (hj : j < l.length) : sfB B (mvL B l j) = decide ((j : Int) ∈ alL B l l.length) := by
  cases h : sfB B (mvL B l j)
  · symm; rw [decide_eq_false_iff_not, alL_mem]
    rintro ⟨i, hi, e, hs⟩
    have : i = j := by omega
    subst this; rw [h] at hs; cases hs
  · symm; rw [decide_eq_true_eq, alL_mem]
    exact ⟨j, hj, rfl, h⟩
theorem cn_set (B : Int) (l : List Int) (j : Nat) (q b : Int) (hj : j < l.length) :
    cn B (l.set j q) b + (if usB B (gx l j) b = true then 1 else 0) = cn B l b + (if usB B q b = true then 1 else 0) := by
  unfold cn
  induction l generalizing j with
  | nil => simp at hj
  | cons x l ih =>
    cases j with
    | zero =>
      have e : gx (x :: l) 0 = x := rfl
      rw [e]
      simp only [List.set_cons_zero, List.countP_cons]
      omega
    | succ j =>
      have e : gx (x :: l) (j + 1) = gx l j := rfl
      have h := ih j (by simpa using hj)
      rw [e]
      simp only [List.set_cons_succ, List.countP_cons]
      omega
theorem all_in (n : Nat) (D : List Int) (h : ∀ b : Nat, b < n → (b : Int) ∈ D) : n ≤ D.length := by
  induction n generalizing D with
  | zero => omega
  | succ n ih =>
    have hm := h n (by omega)
    have h2 := ih (D.erase (n : Int)) (fun b hb => (List.mem_erase_of_ne (by omega)).2 (h b (by omega)))
    rw [List.length_erase_of_mem hm] at h2
    have := List.length_pos_of_mem hm
    omega
theorem us_fin : ∀ b : Fin 9, ∀ q : Fin 24, 2 ≤ b.val → q.val < 3 * b.val →
    ((q.val % 3 ≠ 1 → ∀ c : Fin 8, usB (b.val : Int) (mvP (b.val : Int) (q.val : Int)) (c.val : Int) = true → usB (b.val : Int) (q.val : Int) (c.val : Int) = true) ∧
     (q.val % 3 = 1 → ∀ c : Fin 8, usB (b.val : Int) (mvP (b.val : Int) (q.val : Int)) (c.val : Int) = true → usB (b.val : Int) (q.val : Int) (c.val : Int) = true ∨ c.val = (q.val / 3 + 1) % b.val) ∧
     (q.val % 3 = 1 → ∀ c : Fin 8, usB (b.val : Int) (q.val : Int) (c.val : Int) = true → c.val = q.val / 3)) := by decide +kernel
theorem live {B : Int} {l : List Int} (hs : sfB B l = true) (hlt : (l.length : Int) < B) : alL B l l.length ≠ [] := by
  intro hnil
  have hv := sfB_tf hs
  obtain ⟨b1, b2, n1, n2, hp⟩ := (tfB_iff B l).1 hv
  have hsl : slB B l = true := by rw [← sfB_sl hv]; exact hs
  obtain ⟨bn, rfl⟩ := Int.eq_ofNat_of_zero_le (show 0 ≤ B by omega)
  have hsl := (slB_iff _ _).1 hsl
  have hno : ∀ j, j < l.length → ∃ b : Nat, b < bn ∧ 1 < cn bn (mvL bn l j) b := by
    intro j hj
    have h1 : sfB bn (mvL bn l j) = false := by
      rw [al_mem _ _ _ hj, hnil]; simp
    rw [sfB_sl (mvL_tf j hv)] at h1
    by_cases q : ∃ b : Nat, b < bn ∧ 1 < cn bn (mvL bn l j) b
    · exact q
    · exfalso
      rw [(slB_iff _ _).2 (fun b hb => by
        by_cases c : 1 < cn bn (mvL bn l j) b
        · exact absurd ⟨b, by simpa using hb, c⟩ q
        · omega)] at h1
      cases h1
  -- each train holds, and the next block is used
  have key : ∀ j, j < l.length → ∃ i, i < l.length ∧ gx l i / 3 = (gx l j / 3 + 1) % bn := by
    have hold : ∀ j, j < l.length → gx l j % 3 = 1 := by
      intro j hj
      obtain ⟨p1, p2⟩ := plB_at hp j hj
      obtain ⟨q, hq⟩ := Int.eq_ofNat_of_zero_le p1
      obtain ⟨f1, _, _⟩ := us_fin ⟨bn, by omega⟩ ⟨q, by omega⟩ (by simp; omega) (by simp; omega)
      by_cases hm : q % 3 = 1
      · omega
      · exfalso
        obtain ⟨b, hb, hc⟩ := hno j hj
        have h2 := cn_set bn l j (mvP bn (gx l j)) b hj
        have h3 := hsl b (by simpa using hb)
        have h4 := f1 hm ⟨b, by omega⟩
        simp only [] at h4
        rw [hq] at h2
        unfold mvL at hc
        rw [hq] at hc
        by_cases u : usB (bn : Int) (mvP (bn : Int) (q : Int)) (b : Int) = true
        · have h5 := h4 u
          rw [if_pos u, if_pos h5] at h2
          omega
        · rw [if_neg u] at h2
          omega
    intro j hj
    obtain ⟨p1, p2⟩ := plB_at hp j hj
    obtain ⟨q, hq⟩ := Int.eq_ofNat_of_zero_le p1
    obtain ⟨_, f2, f3⟩ := us_fin ⟨bn, by omega⟩ ⟨q, by omega⟩ (by simp; omega) (by simp; omega)
    have hm : q % 3 = 1 := by have := hold j hj; omega
    obtain ⟨b, hb, hc⟩ := hno j hj
    have h2 := cn_set bn l j (mvP bn (gx l j)) b hj
    have h3 := hsl b (by simpa using hb)
    have h4 := f2 hm ⟨b, by omega⟩
    simp only [] at h4
    rw [hq] at h2
    unfold mvL at hc
    rw [hq] at hc
    have u : usB (bn : Int) (mvP (bn : Int) (q : Int)) (b : Int) = true := by
      by_cases u : usB (bn : Int) (mvP (bn : Int) (q : Int)) (b : Int) = true
      · exact u
      · rw [if_neg u] at h2; omega
    have hnb : b = (q / 3 + 1) % bn := by
      rcases h4 u with h5 | h5
      · rw [if_pos u, if_pos h5] at h2; omega
      · exact h5
    have hpos : 0 < cn bn l b := by
      rw [if_pos u] at h2
      by_cases h5 : usB (bn : Int) (q : Int) (b : Int) = true
      · rw [if_pos h5] at h2; omega
      · rw [if_neg h5] at h2; omega
    obtain ⟨x, hx, hux⟩ := List.countP_pos_iff.1 hpos
    obtain ⟨i, hi, rfl⟩ := List.mem_iff_getElem.1 hx
    refine ⟨i, hi, ?_⟩
    obtain ⟨r1, r2⟩ := plB_at hp i hi
    obtain ⟨s, hs'⟩ := Int.eq_ofNat_of_zero_le r1
    obtain ⟨_, _, g3⟩ := us_fin ⟨bn, by omega⟩ ⟨s, by omega⟩ (by simp; omega) (by simp; omega)
    have hms : s % 3 = 1 := by have := hold i hi; omega
    have h6 := g3 hms ⟨b, by omega⟩
    simp only [] at h6
    rw [← gx_of l i hi, hs'] at hux
    have h7 := h6 hux
    rw [hs', hq]
    have e1 : ((s : Int) / 3) = ((s / 3 : Nat) : Int) := by omega
    have e2 : (((q : Int) / 3 + 1) % (bn : Int)) = (((q / 3 + 1) % bn : Nat) : Int) := by first | (push_cast; done) | (push_cast; rfl)
    rw [e1, e2, ← h7, hnb]
  have hD : ∀ b : Nat, b < bn → (b : Int) ∈ (l.map fun y : Int => y / 3) := by
    obtain ⟨p1, p2⟩ := plB_at hp 0 (by omega)
    have hclos : ∀ x : Int, x ∈ (l.map fun y : Int => y / 3) → (x + 1) % bn ∈ (l.map fun y : Int => y / 3) := by
      intro x hx
      obtain ⟨y, hy, rfl⟩ := List.mem_map.1 hx
      obtain ⟨j, hj, rfl⟩ := List.mem_iff_getElem.1 hy
      obtain ⟨i, hi, e⟩ := key j hj
      rw [← gx_of l j hj, ← e]
      exact List.mem_map.2 ⟨gx l i, gx_mem l i hi, rfl⟩
    have hstep : ∀ m : Nat, (gx l 0 / 3 + m) % bn ∈ (l.map fun y : Int => y / 3) := by
      intro m
      induction m with
      | zero =>
        have e : (gx l 0 / 3 + ((0 : Nat) : Int)) % bn = gx l 0 / 3 := by
          rw [Int.emod_eq_of_lt (by omega) (by omega)]; omega
        rw [e]; exact List.mem_map.2 ⟨gx l 0, gx_mem l 0 (by omega), rfl⟩
      | succ m ih =>
        have := hclos _ ih
        rw [Int.emod_add_emod] at this
        have e : gx l 0 / 3 + ((m + 1 : Nat) : Int) = gx l 0 / 3 + (m : Int) + 1 := by omega
        rw [e]; exact this
    intro b hb
    obtain ⟨q, hq⟩ := Int.eq_ofNat_of_zero_le (show 0 ≤ gx l 0 / 3 by omega)
    have hqb : q < bn := by omega
    have h := hstep (bn - q + b)
    have e : (gx l 0 / 3 + ((bn - q + b : Nat) : Int)) % bn = b := by
      have : gx l 0 / 3 + ((bn - q + b : Nat) : Int) = (b : Int) + (bn : Int) := by omega
      rw [this, Int.add_emod_right, Int.emod_eq_of_lt (by omega) (by omega)]
    rw [e] at h; exact h
  have := all_in bn _ hD
  rw [List.length_map] at this
  omega
/-- all counts are at most 1 -/
def le1 (c : List Int) : Bool := c.all fun x => decide (x < 2)
theorem le1_iff (c : List Int) : le1 c = true ↔ ∀ i, i < c.length → gx c i < 2 := by
  unfold le1; rw [List.all_eq_true]
  constructor
  · intro h i hi; simpa using h _ (gx_mem c i hi)
  · intro h x hx; obtain ⟨i, hi, rfl⟩ := List.mem_iff_getElem.1 hx; rw [← gx_of c i hi]; simpa using h i hi
theorem le1_set (c : List Int) (b : Nat) (hb : b < c.length) : le1 (c.set b (gx c b + 1)) = (le1 c && decide (gx c b + 1 < 2)) := by
  rw [Bool.eq_iff_iff, Bool.and_eq_true, le1_iff, le1_iff, decide_eq_true_eq]
  constructor
  · intro h
    have h0 := h b (by simpa using hb)
    rw [gx_set _ _ _ _ hb, if_pos rfl] at h0
    refine ⟨fun i hi => ?_, h0⟩
    have h1 := h i (by simpa using hi)
    rw [gx_set _ _ _ _ hi] at h1
    by_cases e : b = i
    · subst e; omega
    · rw [if_neg e] at h1; exact h1
  · intro ⟨h, h0⟩ i hi
    have hi : i < c.length := by simpa using hi
    rw [gx_set _ _ _ _ hi]
    by_cases e : b = i
    · rw [if_pos e]; exact h0
    · rw [if_neg e]; exact h i hi
theorem le1_ld (B : Int) (l : List Int) : le1 (ldL B l) = slB B l := by
  rw [Bool.eq_iff_iff, le1_iff, slB_iff]
  constructor
  · intro h b hb
    have := h b (by rw [ldL_len]; exact hb)
    rw [ldL_gx B l b hb] at this; omega
  · intro h i hi
    rw [ldL_len] at hi
    rw [ldL_gx B l i hi]
    have := h i hi; omega
/-- runs in two parts -/
theorem rnL_take (B : Int) (l ts : List Int) (r k : Nat) (h : k ≤ r) : rnL B l (ts.take r) k = rnL B l ts k := by
  induction k with
  | zero => rfl
  | succ k ih => show mvL B _ _ = mvL B _ _; rw [ih (by omega), gx_take _ _ _ (by omega)]
theorem rnL_drop (B : Int) (l ts : List Int) (r k : Nat) : rnL B (rnL B l ts r) (ts.drop r) k = rnL B l ts (r + k) := by
  induction k with
  | zero => rfl
  | succ k ih =>
    show mvL B _ _ = mvL B (rnL B l ts (r + k)) _
    rw [ih]
    have e : gx (ts.drop r) k = gx ts (r + k) := by unfold gx; simp [List.getD_eq_getElem?_getD]
    rw [e]; rfl
theorem rnE_0' {B : Int} {l ts : List Int} (h : rnE B l ts = 0) : tfB B l = true ∧ ts.length ≤ 200 ∧ ts.all (hasT l) = true ∧ rnS B l ts ts.length = true := by
  unfold rnE at h
  cases hv : tfB B l
  · rw [hv] at h; simp at h
  · by_cases h2 : ts.length ≤ 200
    · cases h3 : ts.all (hasT l)
      · rw [hv, if_pos rfl, if_pos h2, h3] at h; simp at h
      · cases h4 : rnS B l ts ts.length
        · rw [hv, if_pos rfl, if_pos h2, h3, h4] at h; simp at h
        · exact ⟨rfl, h2, rfl, rfl⟩
    · rw [hv, if_pos rfl, if_neg h2] at h; simp at h
theorem rnE_mk {B : Int} {l ts : List Int} (h1 : tfB B l = true) (h2 : ts.length ≤ 200) (h3 : ts.all (hasT l) = true) (h4 : rnS B l ts ts.length = true) : rnE B l ts = 0 := by
  unfold rnE; rw [h1, if_pos rfl, if_pos h2, h3, if_pos rfl, h4]; rfl
theorem hasT_len {l l2 : List Int} (h : l.length = l2.length) : hasT l = hasT l2 := by funext t; unfold hasT; rw [h]
theorem run_take {B : Int} {l ts : List Int} (h : rnE B l ts = 0) (r : Nat) (hr : r ≤ ts.length) : rnE B l (ts.take r) = 0 ∧ rnL B l (ts.take r) (ts.take r).length = rnL B l ts r := by
  obtain ⟨h1, h2, h3, h4⟩ := rnE_0' h
  have hl : (ts.take r).length = r := by rw [List.length_take]; omega
  refine ⟨rnE_mk h1 (by omega) ?_ ?_, by rw [hl, rnL_take B l ts r r (Nat.le_refl _)]⟩
  · rw [List.all_eq_true] at h3 ⊢; intro x hx; exact h3 x (List.mem_of_mem_take hx)
  · rw [rnS_iff] at h4 ⊢; intro j hj; rw [rnL_take B l ts r j (by omega)]; exact h4 j (by omega)
theorem run_drop {B : Int} {l ts : List Int} (h : rnE B l ts = 0) (r : Nat) (hr : r ≤ ts.length) : rnE B (rnL B l ts r) (ts.drop r) = 0 ∧ rnL B (rnL B l ts r) (ts.drop r) (ts.drop r).length = rnL B l ts ts.length := by
  obtain ⟨h1, h2, h3, h4⟩ := rnE_0' h
  have hl : (ts.drop r).length = ts.length - r := by simp
  refine ⟨rnE_mk (rnL_tf ts h1 r) (by omega) ?_ ?_, by rw [rnL_drop, hl]; congr 1; omega⟩
  · rw [hasT_len (rnL_len B l ts r), List.all_eq_true] at *; intro x hx; exact h3 x (List.mem_of_mem_drop hx)
  · rw [rnS_iff] at h4 ⊢; intro j hj; rw [rnL_drop]; exact h4 (r + j) (by omega)
theorem run_safe {B : Int} {l ts : List Int} (h : rnE B l ts = 0) (r : Nat) (hr : r ≤ ts.length) : sfB B (rnL B l ts r) = true := by
  obtain ⟨h1, h2, h3, h4⟩ := rnE_0' h
  exact (rnS_iff _ _ _ _).1 h4 r hr
end Go.Proofs.Ytdaihpkjnigjgaa
