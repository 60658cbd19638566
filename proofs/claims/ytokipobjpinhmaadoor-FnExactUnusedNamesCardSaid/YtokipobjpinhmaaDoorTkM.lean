/- Tokens: what they are, and how a text is read, in plain words. No program in sight. -/
import Derived.Test.YtokipobjpinhmaaDoorNmM
namespace Go.Proofs.YtokipobjpinhmaaDoor
open Go
set_option linter.unusedSimpArgs false
set_option linter.unusedVariables false
def letB (b : UInt8) : Bool := decide (97 ≤ b.toNat) && decide (b.toNat ≤ 122)
def digB (b : UInt8) : Bool := decide (48 ≤ b.toNat) && decide (b.toNat ≤ 57)
def innB (b : UInt8) : Bool := letB b || digB b || decide (b.toNat = 95)
/-- how many bytes at the beginning may stand in a word -/
def wln : List UInt8 → Nat
  | [] => 0
  | b :: t => if innB b = true then wln t + 1 else 0
/-- how many bytes at the beginning are digits -/
def dln : List UInt8 → Nat
  | [] => 0
  | b :: t => if digB b = true then dln t + 1 else 0
/-- how many bytes stand before the next newline -/
def cml : List UInt8 → Nat
  | [] => 0
  | b :: t => if b.toNat = 10 then 0 else cml t + 1
/-- how many bytes at the beginning are blanks, newlines and comments; 'c': a comment is open -/
def gpl : Bool → List UInt8 → Nat
  | _, [] => 0
  | c, b :: t => if b.toNat = 10 then gpl false t + 1 else if b.toNat = 35 then gpl true t + 1 else if b.toNat = 32 ∨ c = true then gpl c t + 1 else 0
def wrdB (l : List UInt8) : Bool := decide (1 ≤ l.length) && decide (l.length ≤ 12) && letB (l.headD 0) && decide (wln l = l.length)
def numB (l : List UInt8) : Bool := decide (dln l = l.length) && decide (1 ≤ l.length) && decide (l.length ≤ 4) && decide (Lib.decDigits (vl 0 l) = l)
def sgnB (l : List UInt8) : Bool := decide (l = [61]) || decide (l = [40]) || decide (l = [41]) || decide (l = [44]) || decide (l = [59])
/-- the kind of the token with this text, or 0 -/
def kdB (l : List UInt8) : Nat := if wrdB l = true then 1 else if numB l = true then 2 else if sgnB l = true then 3 else 0
/-- 'a token of kind k with the text l' -/
def tokB (k : Int) (l : List UInt8) : Bool := if k = 1 then wrdB l else if k = 2 then numB l else if k = 3 then sgnB l else false
theorem wln_le : ∀ l, wln l ≤ l.length
  | [] => Nat.le_refl _
  | b :: t => by have := wln_le t; unfold wln; split <;> simp <;> omega
theorem dln_le : ∀ l, dln l ≤ l.length
  | [] => Nat.le_refl _
  | b :: t => by have := dln_le t; unfold dln; split <;> simp <;> omega
theorem cml_le : ∀ l, cml l ≤ l.length
  | [] => Nat.le_refl _
  | b :: t => by have := cml_le t; unfold cml; split <;> simp <;> omega
theorem gpl_le : ∀ c l, gpl c l ≤ l.length
  | c, [] => by simp [gpl]
  | c, b :: t => by
    have h1 := gpl_le false t; have h2 := gpl_le true t; have h3 := gpl_le c t
    unfold gpl; repeat' split
    all_goals simp
    all_goals omega
theorem wln_all (l : List UInt8) : ∀ x ∈ l.take (wln l), innB x = true := by
  induction l with
  | nil => intro x hx; simp at hx
  | cons b t ih =>
    intro x hx
    unfold wln at hx
    split at hx
    · rename_i h
      simp at hx
      rcases hx with rfl | hx
      · exact h
      · exact ih x hx
    · simp at hx
theorem dln_all (l : List UInt8) : ∀ x ∈ l.take (dln l), digB x = true := by
  induction l with
  | nil => intro x hx; simp at hx
  | cons b t ih =>
    intro x hx
    unfold dln at hx
    split at hx
    · rename_i h
      simp at hx
      rcases hx with rfl | hx
      · exact h
      · exact ih x hx
    · simp at hx
theorem wln_app (a b : List UInt8) (h : wln a = a.length) : wln (a ++ b) = a.length + wln b := by
  induction a with
  | nil => simp
  | cons x t ih =>
    by_cases hx : innB x = true
    · simp only [wln, if_pos hx, List.length_cons] at h
      simp only [List.cons_append, wln, if_pos hx, List.length_cons]
      rw [ih (by omega)]; omega
    · simp only [wln, if_neg hx, List.length_cons] at h; omega
theorem wln_iff (l : List UInt8) : wln l = l.length ↔ ∀ x ∈ l, innB x = true := by
  constructor
  · intro h x hx
    have := wln_all l x
    rw [h, List.take_length] at this
    exact this hx
  · induction l with
    | nil => intro _; rfl
    | cons b t ih =>
      intro h
      simp only [wln, if_pos (h b (by simp)), List.length_cons]
      rw [ih (fun x hx => h x (by simp [hx]))]
theorem dln_iff (l : List UInt8) : dln l = l.length ↔ ∀ x ∈ l, digB x = true := by
  constructor
  · intro h x hx
    have := dln_all l x
    rw [h, List.take_length] at this
    exact this hx
  · induction l with
    | nil => intro _; rfl
    | cons b t ih =>
      intro h
      simp only [dln, if_pos (h b (by simp)), List.length_cons]
      rw [ih (fun x hx => h x (by simp [hx]))]
/-- what stands behind the bytes of a word -/
theorem wln_stop (l : List UInt8) (h : wln l < l.length) : innB l[wln l] = false := by
  induction l with
  | nil => simp at h
  | cons b t ih =>
    by_cases hx : innB b = true
    · have e : wln (b :: t) = wln t + 1 := by simp only [wln, if_pos hx]
      simp only [e, List.getElem_cons_succ] at h ⊢
      exact ih (by simpa using h)
    · have e : wln (b :: t) = 0 := by simp only [wln, if_neg hx]
      simp only [e, List.getElem_cons_zero]; simpa using hx
theorem dln_stop (l : List UInt8) (h : dln l < l.length) : digB l[dln l] = false := by
  induction l with
  | nil => simp at h
  | cons b t ih =>
    by_cases hx : digB b = true
    · have e : dln (b :: t) = dln t + 1 := by simp only [dln, if_pos hx]
      simp only [e, List.getElem_cons_succ] at h ⊢
      exact ih (by simpa using h)
    · have e : dln (b :: t) = 0 := by simp only [dln, if_neg hx]
      simp only [e, List.getElem_cons_zero]; simpa using hx
/-- the length of a run of bytes of a word is told by what stands behind it -/
theorem wln_at (l : List UInt8) (k : Nat) (hk : k ≤ l.length) (h1 : ∀ j (hj : j < k), innB (l[j]'(by omega)) = true) (h2 : ∀ h : k < l.length, innB l[k] = false) : wln l = k := by
  induction l generalizing k with
  | nil => simp at hk; subst hk; rfl
  | cons b t ih =>
    cases k with
    | zero =>
      have := h2 (by simp)
      simp at this
      simp [wln, this]
    | succ k =>
      have h0 := h1 0 (by omega)
      simp at h0
      simp only [wln, h0, if_true]
      rw [ih k (by simpa using hk) (fun j hj => by have := h1 (j + 1) (by omega); simpa using this) (fun h => by have := h2 (by simpa using h); simpa using this)]
theorem dln_at (l : List UInt8) (k : Nat) (hk : k ≤ l.length) (h1 : ∀ j (hj : j < k), digB (l[j]'(by omega)) = true) (h2 : ∀ h : k < l.length, digB l[k] = false) : dln l = k := by
  induction l generalizing k with
  | nil => simp at hk; subst hk; rfl
  | cons b t ih =>
    cases k with
    | zero =>
      have := h2 (by simp)
      simp at this
      simp [dln, this]
    | succ k =>
      have h0 := h1 0 (by omega)
      simp at h0
      simp only [dln, h0, if_true]
      rw [ih k (by simpa using hk) (fun j hj => by have := h1 (j + 1) (by omega); simpa using this) (fun h => by have := h2 (by simpa using h); simpa using this)]
theorem cml_at (l : List UInt8) (k : Nat) (hk : k ≤ l.length) (h1 : ∀ j (hj : j < k), (l[j]'(by omega)).toNat ≠ 10) (h2 : ∀ h : k < l.length, l[k].toNat = 10) : cml l = k := by
  induction l generalizing k with
  | nil => simp at hk; subst hk; rfl
  | cons b t ih =>
    cases k with
    | zero =>
      have := h2 (by simp)
      simp at this
      simp [cml, this]
    | succ k =>
      have h0 := h1 0 (by omega)
      simp at h0
      simp only [cml, if_neg h0]
      rw [ih k (by simpa using hk) (fun j hj => by have := h1 (j + 1) (by omega); simpa using this) (fun h => by have := h2 (by simpa using h); simpa using this)]
/-! numbers -/
theorem digs_digB {l : List UInt8} (h : Digs l) : ∀ x ∈ l, digB x = true := by
  intro x hx; have := h x hx; simp [digB, this]
theorem digB_digs {l : List UInt8} (h : ∀ x ∈ l, digB x = true) : Digs l := by
  intro x hx; have := h x hx; simp [digB] at this; exact this
/-- a number of 0 to 9999, as it is written -/
theorem numB_iff (l : List UInt8) : numB l = true ↔ ∃ m : Nat, m ≤ 9999 ∧ Lib.decDigits m = l := by
  constructor
  · intro h
    simp [numB] at h
    obtain ⟨⟨⟨h1, h2⟩, h3⟩, h4⟩ := h
    refine ⟨vl 0 l, ?_, h4⟩
    have hd := digB_digs ((dln_iff l).1 h1)
    have hb := vl_bd l 0 hd
    have h5 : 10 ^ l.length ≤ 10 ^ 4 := Nat.pow_le_pow_right (by omega) h3
    omega
  · rintro ⟨m, hm, rfl⟩
    obtain ⟨h1, h2, h3⟩ := dec_read (m + 1) m (by omega)
    have h4 := dec_len1 3 m (by omega)
    have h5 : 1 ≤ (Lib.decDigits m).length := by
      cases h : Lib.decDigits m with
      | nil => exact absurd h h3
      | cons a r => simp
    simp [numB, h1, h4, h5, (dln_iff _).2 (digs_digB h2)]
theorem let_dig (b : UInt8) (h : letB b = true) : digB b = false := by
  simp [letB, digB] at h ⊢; omega
theorem let_inn (b : UInt8) (h : letB b = true) : innB b = true := by simp [innB, h]
theorem dig_inn (b : UInt8) (h : digB b = true) : innB b = true := by simp [innB, h]
theorem wrd_head {l : List UInt8} (h : wrdB l = true) : ∃ b t, l = b :: t ∧ letB b = true := by
  simp [wrdB] at h
  cases l with
  | nil => simp at h
  | cons b t => exact ⟨b, t, rfl, by simpa using h.1.2⟩
theorem num_head {l : List UInt8} (h : numB l = true) : ∃ b t, l = b :: t ∧ digB b = true := by
  simp [numB] at h
  cases l with
  | nil => simp at h
  | cons b t => exact ⟨b, t, rfl, (dln_iff _).1 h.1.1.1 b (by simp)⟩
theorem sgn_head {l : List UInt8} (h : sgnB l = true) : ∃ b, l = [b] ∧ innB b = false ∧ b.toNat ≠ 32 ∧ b.toNat ≠ 10 ∧ b.toNat ≠ 35 := by
  simp [sgnB] at h
  rcases h with (((h | h) | h) | h) | h <;> exact ⟨_, h, by decide, by decide, by decide, by decide⟩
theorem tok_kd (k : Int) (l : List UInt8) : tokB k l = (decide ((kdB l : Int) ≠ 0) && decide ((kdB l : Int) = k)) := by
  have h12 : wrdB l = true → numB l = false := by
    intro h1
    cases h2 : numB l with
    | false => rfl
    | true =>
      obtain ⟨b, t, rfl, h3⟩ := wrd_head h1
      obtain ⟨b', t', h4, h5⟩ := num_head h2
      cases h4
      rw [let_dig b h3] at h5; cases h5
  have h13 : wrdB l = true → sgnB l = false := by
    intro h1
    cases h2 : sgnB l with
    | false => rfl
    | true =>
      obtain ⟨b, t, rfl, h3⟩ := wrd_head h1
      obtain ⟨b', h4, h5, _⟩ := sgn_head h2
      cases h4
      rw [let_inn b h3] at h5; cases h5
  have h23 : numB l = true → sgnB l = false := by
    intro h1
    cases h2 : sgnB l with
    | false => rfl
    | true =>
      obtain ⟨b, t, rfl, h3⟩ := num_head h1
      obtain ⟨b', h4, h5, _⟩ := sgn_head h2
      cases h4
      rw [dig_inn b h3] at h5; cases h5
  unfold tokB kdB
  cases hw : wrdB l <;> cases hn : numB l <;> cases hs : sgnB l <;> simp_all
  all_goals (first | omega | (by_cases h1 : k = 1 <;> by_cases h2 : k = 2 <;> by_cases h3 : k = 3 <;> simp_all <;> omega))
/-! reading -/
/-- the first part of a text that begins with no gap -/
def prt (s : List UInt8) : List UInt8 := s.take (max (wln s) 1)
theorem prt_len (s : List UInt8) (h : s ≠ []) : 1 ≤ (prt s).length ∧ (prt s).length = max (wln s) 1 ∧ max (wln s) 1 ≤ s.length := by
  have h1 := wln_le s
  have h2 : 1 ≤ s.length := by cases s with | nil => exact absurd rfl h | cons => simp
  unfold prt; rw [List.length_take]; omega
/-- the tokens of a text up to its first wrong part, and where this begins, or -1; 'p' bytes stand before the text -/
def rdF : Nat → List UInt8 → Nat → List (Nat × List UInt8) × Int
  | 0, _, _ => ([], -1)
  | f + 1, s, p => match s with
    | [] => ([], -1)
    | b :: t =>
      if b.toNat = 32 ∨ b.toNat = 10 then rdF f t (p + 1)
      else if b.toNat = 35 then rdF f (t.drop (cml t)) (p + 1 + cml t)
      else if kdB (prt (b :: t)) = 0 then ([], (p : Int))
      else ((kdB (prt (b :: t)), prt (b :: t)) :: (rdF f ((b :: t).drop (prt (b :: t)).length) (p + (prt (b :: t)).length)).1, (rdF f ((b :: t).drop (prt (b :: t)).length) (p + (prt (b :: t)).length)).2)
theorem rdF_fuel : ∀ (f g : Nat) (s : List UInt8) (p : Nat), s.length ≤ f → s.length ≤ g → rdF f s p = rdF g s p
  | 0, 0, s, p, _, _ => rfl
  | 0, g + 1, s, p, h, _ => by
    have : s = [] := List.length_eq_zero_iff.1 (by omega)
    subst this; rfl
  | f + 1, 0, s, p, _, h => by
    have : s = [] := List.length_eq_zero_iff.1 (by omega)
    subst this; rfl
  | f + 1, g + 1, s, p, h1, h2 => by
    cases s with
    | nil => rfl
    | cons b t =>
      have hp := prt_len (b :: t) (by simp)
      simp only [List.length_cons] at h1 h2 hp
      simp only [rdF]
      rw [rdF_fuel f g t (p + 1) (by omega) (by omega), rdF_fuel f g (t.drop (cml t)) _ (by rw [List.length_drop]; omega) (by rw [List.length_drop]; omega), rdF_fuel f g ((b :: t).drop (prt (b :: t)).length) _ (by rw [List.length_drop, List.length_cons]; omega) (by rw [List.length_drop, List.length_cons]; omega)]
def rd (s : List UInt8) (p : Nat) : List (Nat × List UInt8) × Int := rdF s.length s p
theorem rd_nil (p : Nat) : rd [] p = ([], -1) := rfl
theorem rd_sp (b : UInt8) (t : List UInt8) (p : Nat) (h : b.toNat = 32 ∨ b.toNat = 10) : rd (b :: t) p = rd t (p + 1) := by
  unfold rd; rw [List.length_cons]; simp only [rdF, if_pos h]
theorem rd_cm (b : UInt8) (t : List UInt8) (p : Nat) (h : b.toNat = 35) : rd (b :: t) p = rd (t.drop (cml t)) (p + 1 + cml t) := by
  unfold rd; rw [List.length_cons]; simp only [rdF]
  rw [if_neg (by omega), if_pos h]
  exact rdF_fuel _ _ _ _ (by rw [List.length_drop]; omega) (Nat.le_refl _)
theorem rd_bad (b : UInt8) (t : List UInt8) (p : Nat) (h1 : b.toNat ≠ 32) (h2 : b.toNat ≠ 10) (h3 : b.toNat ≠ 35) (h : kdB (prt (b :: t)) = 0) : rd (b :: t) p = ([], (p : Int)) := by
  unfold rd; rw [List.length_cons]; simp only [rdF]
  rw [if_neg (by omega), if_neg h3, if_pos h]
theorem rd_tok (b : UInt8) (t : List UInt8) (p : Nat) (h1 : b.toNat ≠ 32) (h2 : b.toNat ≠ 10) (h3 : b.toNat ≠ 35) (h : kdB (prt (b :: t)) ≠ 0) :
    rd (b :: t) p = ((kdB (prt (b :: t)), prt (b :: t)) :: (rd ((b :: t).drop (prt (b :: t)).length) (p + (prt (b :: t)).length)).1, (rd ((b :: t).drop (prt (b :: t)).length) (p + (prt (b :: t)).length)).2) := by
  have hp := prt_len (b :: t) (by simp)
  unfold rd; rw [List.length_cons]; simp only [rdF]
  rw [if_neg (by omega), if_neg h3, if_neg h]
  rw [rdF_fuel t.length ((b :: t).drop (prt (b :: t)).length).length _ _ (by rw [List.length_drop, List.length_cons]; omega) (Nat.le_refl _)]
theorem cml_cons (b : UInt8) (t : List UInt8) (h : b.toNat ≠ 10) : cml (b :: t) = cml t + 1 := by simp only [cml, if_neg h]
theorem gpl_true : ∀ s, gpl true s = cml s + gpl false (s.drop (cml s))
  | [] => rfl
  | b :: t => by
    by_cases h : b.toNat = 10
    · simp [gpl, cml, h]
    · have ih := gpl_true t
      rw [cml_cons b t h]
      by_cases h2 : b.toNat = 35
      · simp only [gpl, if_neg h, if_pos h2, List.drop_succ_cons]; omega
      · simp only [gpl, if_neg h, if_neg h2, or_true, if_true, List.drop_succ_cons]; omega
theorem rd_gap : ∀ (n : Nat) (s : List UInt8) (p : Nat), s.length ≤ n → rd s p = rd (s.drop (gpl false s)) (p + gpl false s)
  | 0, s, p, h => by
    have : s = [] := List.length_eq_zero_iff.1 (by omega)
    subst this; rfl
  | n + 1, s, p, h => by
    cases s with
    | nil => rfl
    | cons b t =>
      simp only [List.length_cons] at h
      by_cases h1 : b.toNat = 32 ∨ b.toNat = 10
      · have e : gpl false (b :: t) = gpl false t + 1 := by
          simp only [gpl]
          rcases h1 with h1 | h1
          · rw [if_neg (by omega), if_neg (by omega), if_pos (by simp [h1])]
          · rw [if_pos h1]
        rw [rd_sp b t p h1, e, rd_gap n t (p + 1) (by omega), List.drop_succ_cons, show p + (gpl false t + 1) = p + 1 + gpl false t by omega]
      · by_cases h2 : b.toNat = 35
        · have e : gpl false (b :: t) = gpl true t + 1 := by
            simp only [gpl]; rw [if_neg (by omega), if_pos h2]
          have hc := cml_le t
          rw [rd_cm b t p h2, e, gpl_true, rd_gap n (t.drop (cml t)) _ (by rw [List.length_drop]; omega), List.drop_succ_cons, List.drop_drop]
          congr 1; omega
        · have e : gpl false (b :: t) = 0 := by
            simp only [gpl]; rw [if_neg (by omega), if_neg h2, if_neg (by simp; omega)]
          rw [e]; rfl
theorem rd_gap' (s : List UInt8) (p : Nat) : rd s p = rd (s.drop (gpl false s)) (p + gpl false s) := rd_gap s.length s p (Nat.le_refl _)
/-- behind a gap stands no gap -/
theorem gpl_stop : ∀ (c : Bool) (s : List UInt8) (h : gpl c s < s.length), (s[gpl c s]).toNat ≠ 10 ∧ (s[gpl c s]).toNat ≠ 35 ∧ (s[gpl c s]).toNat ≠ 32
  | c, [], h => by simp at h
  | c, b :: t, h => by
    by_cases h1 : b.toNat = 10
    · have e : gpl c (b :: t) = gpl false t + 1 := by simp only [gpl, if_pos h1]
      simp only [e, List.getElem_cons_succ] at h ⊢
      exact gpl_stop false t (by simpa using h)
    · by_cases h2 : b.toNat = 35
      · have e : gpl c (b :: t) = gpl true t + 1 := by simp only [gpl, if_neg h1, if_pos h2]
        simp only [e, List.getElem_cons_succ] at h ⊢
        exact gpl_stop true t (by simpa using h)
      · by_cases h3 : b.toNat = 32 ∨ c = true
        · have e : gpl c (b :: t) = gpl c t + 1 := by simp only [gpl, if_neg h1, if_neg h2, if_pos h3]
          simp only [e, List.getElem_cons_succ] at h ⊢
          exact gpl_stop c t (by simpa using h)
        · have e : gpl c (b :: t) = 0 := by simp only [gpl, if_neg h1, if_neg h2, if_neg h3]
          simp only [e, List.getElem_cons_zero]
          exact ⟨h1, h2, by omega⟩
end Go.Proofs.YtokipobjpinhmaaDoor
