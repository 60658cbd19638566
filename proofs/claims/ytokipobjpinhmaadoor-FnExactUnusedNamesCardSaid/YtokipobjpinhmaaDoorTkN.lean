/- Tokens: the model's step, stripped comments, and standard texts, in plain words. No program in sight. -/
import Derived.Test.YtokipobjpinhmaaDoorTkM
namespace Go.Proofs.YtokipobjpinhmaaDoor
open Go
set_option linter.unusedSimpArgs false
set_option linter.unusedVariables false
theorem prt_let {b : UInt8} {t : List UInt8} (h : innB b = true) : prt (b :: t) = (b :: t).take (wln (b :: t)) := by
  unfold prt
  have : 1 ≤ wln (b :: t) := by simp only [wln, if_pos h]; omega
  rw [show max (wln (b :: t)) 1 = wln (b :: t) by omega]
theorem prt_oth {b : UInt8} {t : List UInt8} (h : innB b = false) : prt (b :: t) = [b] := by
  unfold prt
  have : wln (b :: t) = 0 := by simp [wln, h]
  rw [this]; rfl
theorem prt_cons (b : UInt8) (t : List UInt8) : ∃ r, prt (b :: t) = b :: r := by
  unfold prt
  obtain ⟨k, hk⟩ : ∃ k, max (wln (b :: t)) 1 = k + 1 := ⟨max (wln (b :: t)) 1 - 1, by omega⟩
  rw [hk]; exact ⟨t.take k, rfl⟩
theorem not_wrd {b : UInt8} {r : List UInt8} (h : letB b = false) : wrdB (b :: r) = false := by simp [wrdB, h]
theorem not_num {b : UInt8} {r : List UInt8} (h : digB b = false) : numB (b :: r) = false := by
  cases hn : numB (b :: r) with
  | false => rfl
  | true => obtain ⟨b', t', h4, h5⟩ := num_head hn; cases h4; rw [h] at h5; cases h5
theorem not_sgn {b : UInt8} {r : List UInt8} (h : innB b = true) : sgnB (b :: r) = false := by
  cases hn : sgnB (b :: r) with
  | false => rfl
  | true => obtain ⟨b', h4, h5, _⟩ := sgn_head hn; cases h4; rw [h] at h5; cases h5
theorem kd_let {b : UInt8} {t : List UInt8} (h : letB b = true) : kdB (prt (b :: t)) = if wrdB (prt (b :: t)) = true then 1 else 0 := by
  obtain ⟨r, hr⟩ := prt_cons b t
  rw [hr]; unfold kdB
  rw [not_num (let_dig b h), not_sgn (let_inn b h)]; simp
theorem dig_let (b : UInt8) (h : digB b = true) : letB b = false := by
  simp [letB, digB] at h ⊢; omega
theorem kd_oth {b : UInt8} {t : List UInt8} (h1 : letB b = false) (h2 : digB b = false) : kdB (prt (b :: t)) = if sgnB [b] = true then 3 else 0 := by
  by_cases h3 : innB b = true
  · obtain ⟨r, hr⟩ := prt_cons b t
    rw [hr, not_sgn h3]; unfold kdB
    rw [not_wrd h1, not_num h2, not_sgn h3]; simp
  · have h3 : innB b = false := by simpa using h3
    rw [prt_oth h3]; unfold kdB
    rw [not_wrd h1, not_num h2]; simp
theorem dln_wln (l : List UInt8) : dln l ≤ wln l := by
  induction l with
  | nil => exact Nat.le_refl _
  | cons b t ih =>
    by_cases h : digB b = true
    · simp only [dln, wln, if_pos h, if_pos (dig_inn b h)]; omega
    · simp only [dln, if_neg h]; omega
theorem wln_dln (l : List UInt8) (h : ∀ hd : dln l < l.length, innB l[dln l] = false) : wln l = dln l := by
  have h1 := dln_le l
  refine wln_at l (dln l) h1 (fun j hj => ?_) h
  have := dln_all l (l[j]'(by omega)) (by rw [List.mem_take_iff_getElem]; exact ⟨j, by omega, rfl⟩)
  exact dig_inn _ this
/-- a run of digits is a number's text exactly if it is one and no word's byte follows -/
theorem kd_dig {b : UInt8} {t : List UInt8} (h : digB b = true) (ok : Bool) (hok : ok = (numB ((b :: t).take (dln (b :: t))) && (decide (dln (b :: t) = (b :: t).length) || !(innB (((b :: t).drop (dln (b :: t))).headD 0))))) :
    (ok = true → kdB (prt (b :: t)) = 2 ∧ prt (b :: t) = (b :: t).take (dln (b :: t))) ∧ (ok = false → kdB (prt (b :: t)) = 0) := by
  have hw := not_wrd (r := t) (dig_let b h)
  by_cases hn : ∀ hd : dln (b :: t) < (b :: t).length, innB (b :: t)[dln (b :: t)] = false
  · have e := wln_dln (b :: t) hn
    have hp : prt (b :: t) = (b :: t).take (dln (b :: t)) := by rw [prt_let (dig_inn b h), e]
    have hcond : (decide (dln (b :: t) = (b :: t).length) || !(innB (((b :: t).drop (dln (b :: t))).headD 0))) = true := by
      by_cases hd : dln (b :: t) < (b :: t).length
      · rw [List.drop_eq_getElem_cons hd, List.headD_cons, hn hd]; simp
      · have := dln_le (b :: t)
        simp; left
        simp at hd this; omega
    rw [hcond, Bool.and_true] at hok
    obtain ⟨r, hr⟩ := prt_cons b t
    rw [← hp] at hok
    constructor
    · intro h1
      rw [h1] at hok
      refine ⟨?_, hp⟩
      unfold kdB
      rw [← hok]
      have : wrdB (prt (b :: t)) = false := by rw [hr]; exact not_wrd (dig_let b h)
      rw [this]; simp
    · intro h1
      rw [h1] at hok
      unfold kdB
      rw [← hok]
      have h2 : wrdB (prt (b :: t)) = false := by rw [hr]; exact not_wrd (dig_let b h)
      have h3 : sgnB (prt (b :: t)) = false := by rw [hr]; exact not_sgn (dig_inn b h)
      rw [h2, h3]; simp
  · have hd : dln (b :: t) < (b :: t).length := Classical.byContradiction fun hc => hn (fun hd' => absurd hd' hc)
    have hi : innB (b :: t)[dln (b :: t)] = true := by
      cases hx : innB (b :: t)[dln (b :: t)] with
      | true => rfl
      | false => exact absurd (fun _ => hx) hn
    have hcond : (decide (dln (b :: t) = (b :: t).length) || !(innB (((b :: t).drop (dln (b :: t))).headD 0))) = false := by
      rw [List.drop_eq_getElem_cons hd, List.headD_cons, hi]; simp
      simp at hd; omega
    rw [hcond, Bool.and_false] at hok
    refine ⟨fun h1 => absurd (hok.symm.trans h1) (by decide), fun _ => ?_⟩
    obtain ⟨r, hr⟩ := prt_cons b t
    have h2 : wrdB (prt (b :: t)) = false := by rw [hr]; exact not_wrd (dig_let b h)
    have h3 : sgnB (prt (b :: t)) = false := by rw [hr]; exact not_sgn (dig_inn b h)
    have h4 : numB (prt (b :: t)) = false := by
      cases h5 : numB (prt (b :: t)) with
      | false => rfl
      | true =>
        simp [numB] at h5
        have h6 := (dln_iff _).1 h5.1.1.1
        have hlt : dln (b :: t) < wln (b :: t) := by
          refine Nat.lt_of_le_of_ne (dln_wln _) (fun e => ?_)
          have h9 : innB ((b :: t)[dln (b :: t)]'hd) = false := by
            have h10 := wln_stop (b :: t) (by rw [← e]; exact hd)
            simpa only [← e] using h10
          rw [hi] at h9; cases h9
        have h8 := h6 ((b :: t)[dln (b :: t)]'hd) (by
          rw [prt_let (dig_inn b h), List.mem_take_iff_getElem]
          exact ⟨dln (b :: t), Nat.lt_min.2 ⟨hlt, hd⟩, rfl⟩)
        rw [dln_stop (b :: t) hd] at h8; cases h8
    unfold kdB
    rw [h2, h3, h4]; simp
/-! comments stripped -/
def stp : Bool → List UInt8 → List UInt8
  | _, [] => []
  | c, b :: t => if b.toNat = 10 then b :: stp false t else if b.toNat = 35 ∨ c = true then stp true t else b :: stp false t
theorem stp_true : ∀ t, stp true t = stp false (t.drop (cml t))
  | [] => rfl
  | b :: t => by
    by_cases h : b.toNat = 10
    · simp [stp, cml, h]
    · have ih := stp_true t
      rw [cml_cons b t h]
      simp only [stp, if_neg h, or_true, if_true, List.drop_succ_cons]
      exact ih
theorem stp_len : ∀ c s, (stp c s).length ≤ s.length
  | c, [] => by simp [stp]
  | c, b :: t => by
    have h1 := stp_len false t; have h2 := stp_len true t
    unfold stp; repeat' split
    all_goals simp
    all_goals omega
theorem inn_not (b : UInt8) (h : innB b = true) : b.toNat ≠ 10 ∧ b.toNat ≠ 35 ∧ b.toNat ≠ 32 := by
  simp [innB, letB, digB] at h; omega
theorem stp_inn (b : UInt8) (t : List UInt8) (h1 : b.toNat ≠ 10) (h2 : b.toNat ≠ 35) : stp false (b :: t) = b :: stp false t := by
  simp [stp, h1, h2]
theorem wln_true : ∀ t, wln (stp true t) = 0
  | [] => rfl
  | b :: t => by
    by_cases h : b.toNat = 10
    · have hi : innB b = false := by
        cases hx : innB b with
        | false => rfl
        | true => exact absurd h (inn_not b hx).1
      simp only [stp, if_pos h]
      simp [wln, hi]
    · simp only [stp, if_neg h, or_true, if_true]; exact wln_true t
theorem wln_stp : ∀ s, wln (stp false s) = wln s
  | [] => rfl
  | b :: t => by
    by_cases hi : innB b = true
    · have h := inn_not b hi
      rw [stp_inn b t h.1 h.2.1]
      simp only [wln, if_pos hi]; rw [wln_stp t]
    · have e : wln (b :: t) = 0 := by simp only [wln, if_neg hi]
      rw [e]
      by_cases h1 : b.toNat = 10
      · simp only [stp, if_pos h1, wln, if_neg hi]
      · by_cases h2 : b.toNat = 35
        · simp only [stp, if_neg h1, h2, true_or, if_true]; exact wln_true t
        · rw [stp_inn b t h1 h2]; simp only [wln, if_neg hi]
theorem stp_app (a u : List UInt8) (h : ∀ x ∈ a, x.toNat ≠ 10 ∧ x.toNat ≠ 35) : stp false (a ++ u) = a ++ stp false u := by
  induction a with
  | nil => rfl
  | cons x t ih =>
    have hx := h x (by simp)
    show stp false (x :: (t ++ u)) = _
    rw [stp_inn x _ hx.1 hx.2, ih (fun y hy => h y (by simp [hy]))]; rfl
theorem prt_mem {b : UInt8} {t : List UInt8} (h2 : b.toNat ≠ 10) (h3 : b.toNat ≠ 35) : ∀ x ∈ prt (b :: t), x.toNat ≠ 10 ∧ x.toNat ≠ 35 := by
  intro x hx
  by_cases hi : innB b = true
  · rw [prt_let hi] at hx
    have := inn_not x (wln_all _ x hx)
    exact ⟨this.1, this.2.1⟩
  · rw [prt_oth (by simpa using hi)] at hx
    simp at hx; subst hx; exact ⟨h2, h3⟩
theorem prt_stp {b : UInt8} {t : List UInt8} (h2 : b.toNat ≠ 10) (h3 : b.toNat ≠ 35) : stp false (b :: t) = prt (b :: t) ++ stp false ((b :: t).drop (prt (b :: t)).length) ∧ prt (stp false (b :: t)) = prt (b :: t) := by
  have hp := prt_len (b :: t) (by simp)
  have e1 : stp false (b :: t) = prt (b :: t) ++ stp false ((b :: t).drop (prt (b :: t)).length) := by
    have : b :: t = prt (b :: t) ++ (b :: t).drop (prt (b :: t)).length := by
      rw [hp.2.1]; unfold prt; exact (List.take_append_drop _ _).symm
    conv => lhs; rw [this]
    exact stp_app _ _ (prt_mem h2 h3)
  refine ⟨e1, ?_⟩
  conv => lhs; unfold prt
  rw [wln_stp, e1, ← hp.2.1, List.take_left]
theorem rd_sgn (s : List UInt8) : ∀ (n : Nat) (p : Nat) (s : List UInt8), s.length ≤ n → (rd s p).2 = -1 ∨ 0 ≤ (rd s p).2 := by
  intro n
  induction n with
  | zero => intro p s h; have : s = [] := List.length_eq_zero_iff.1 (by omega); subst this; exact .inl rfl
  | succ n ih =>
    intro p s h
    cases s with
    | nil => exact .inl rfl
    | cons b t =>
      simp only [List.length_cons] at h
      by_cases h1 : b.toNat = 32 ∨ b.toNat = 10
      · rw [rd_sp b t p h1]; exact ih _ _ (by omega)
      · by_cases h2 : b.toNat = 35
        · rw [rd_cm b t p h2]; exact ih _ _ (by rw [List.length_drop]; omega)
        · have hp := prt_len (b :: t) (by simp)
          by_cases hk : kdB (prt (b :: t)) = 0
          · rw [rd_bad b t p (by omega) (by omega) h2 hk]; right; simp
          · rw [rd_tok b t p (by omega) (by omega) h2 hk]
            exact ih _ _ (by rw [List.length_drop, List.length_cons]; omega)
theorem rd_m1 (s : List UInt8) (p : Nat) : (rd s p).2 = -1 ∨ 0 ≤ (rd s p).2 := rd_sgn s s.length p s (Nat.le_refl _)
/-- the tokens do not depend on the comments -/
theorem rd_stp : ∀ (n : Nat) (s : List UInt8) (p q : Nat), s.length ≤ n → (rd (stp false s) q).1 = (rd s p).1 ∧ ((rd (stp false s) q).2 = -1 ↔ (rd s p).2 = -1) := by
  intro n
  induction n with
  | zero => intro s p q h; have : s = [] := List.length_eq_zero_iff.1 (by omega); subst this; exact ⟨rfl, Iff.rfl⟩
  | succ n ih =>
    intro s p q h
    cases s with
    | nil => exact ⟨rfl, Iff.rfl⟩
    | cons b t =>
      simp only [List.length_cons] at h
      by_cases h1 : b.toNat = 32 ∨ b.toNat = 10
      · have e : stp false (b :: t) = b :: stp false t := by
          by_cases h10 : b.toNat = 10
          · simp [stp, h10]
          · exact stp_inn b t h10 (by omega)
        rw [e, rd_sp b t p h1, rd_sp b _ q h1]
        exact ih _ _ _ (by omega)
      · by_cases h2 : b.toNat = 35
        · have e : stp false (b :: t) = stp false (t.drop (cml t)) := by
            rw [← stp_true]; simp [stp, h2]
          rw [e, rd_cm b t p h2]
          exact ih _ _ _ (by rw [List.length_drop]; omega)
        · have hp := prt_len (b :: t) (by simp)
          obtain ⟨e1, e2⟩ := prt_stp (t := t) (show b.toNat ≠ 10 by omega) h2
          have e3 := stp_inn b t (by omega) h2
          by_cases hk : kdB (prt (b :: t)) = 0
          · rw [rd_bad b t p (by omega) (by omega) h2 hk]
            rw [e3] at e2 ⊢
            rw [rd_bad b _ q (by omega) (by omega) h2 (by rw [e2]; exact hk)]
            refine ⟨rfl, ?_⟩
            constructor <;> intro hx <;> simp at hx
          · rw [rd_tok b t p (by omega) (by omega) h2 hk]
            have e4 : (stp false (b :: t)).drop (prt (b :: t)).length = stp false ((b :: t).drop (prt (b :: t)).length) := by
              rw [e1, List.drop_left]
            rw [e3] at e2 e4 ⊢
            rw [rd_tok b _ q (by omega) (by omega) h2 (by rw [e2]; exact hk), e2, e4]
            obtain ⟨i1, i2⟩ := ih ((b :: t).drop (prt (b :: t)).length) (p + (prt (b :: t)).length) (q + (prt (b :: t)).length) (by rw [List.length_drop, List.length_cons]; omega)
            exact ⟨by rw [i1], i2⟩
/-! standard texts -/
/-- the keywords' bytes; the last six are those of blocks -/
def kws : List (List UInt8) := [[112, 114, 111, 103, 114, 97, 109], [105, 110], [118, 97, 114], [111, 117, 116], [103, 117, 97, 114, 100], [101, 110, 100], [97, 110, 100], [111, 114], [110, 111, 116], [116, 114, 117, 101], [102, 97, 108, 115, 101], [111, 110], [111, 102, 102], [114, 105, 115, 101], [108, 97, 116, 99, 104], [99, 111, 117, 110, 116], [112, 97, 105, 114]]
def bks : List (List UInt8) := [[111, 110], [111, 102, 102], [114, 105, 115, 101], [108, 97, 116, 99, 104], [99, 111, 117, 110, 116], [112, 97, 105, 114]]
def kwB (l : List UInt8) : Bool := kws.contains l
def bkB12 (l : List UInt8) : Bool := bks.contains l
/-- 'a blank stands between two tokens' -/
def blkB (a b : List UInt8) : Bool := if a = [59] ∨ a = [40] then false else if b = [59] ∨ b = [44] ∨ b = [41] then false else if b = [40] then !(bkB12 a) else true
def nlT (x : List UInt8) : List UInt8 := if x = [59] then [10] else []
/-- what stands for tokens behind a token a -/
def stG (a : List UInt8) : List (List UInt8) → List UInt8
  | [] => []
  | x :: r => (if blkB a x = true then [32] else []) ++ (x ++ (nlT x ++ stG x r))
/-- what stands for the tokens from number k on -/
def rst (L : List (List UInt8)) (k : Nat) : List UInt8 := if k = 0 then (match L with | [] => [] | x :: r => x ++ (nlT x ++ stG x r)) else stG (L.getD (k - 1) []) (L.drop k)
def stdB (L : List (List UInt8)) : List UInt8 := rst L 0
/-- what stands for token k -/
def pcs (L : List (List UInt8)) (k : Nat) : List UInt8 := (if (decide (0 < k) && blkB (L.getD (k - 1) []) (L.getD k [])) = true then [32] else []) ++ (L.getD k [] ++ nlT (L.getD k []))
theorem rst_step (L : List (List UInt8)) (k : Nat) (h : k < L.length) : rst L k = pcs L k ++ rst L (k + 1) := by
  have hd : L.drop k = L.getD k [] :: L.drop (k + 1) := by
    rw [List.drop_eq_getElem_cons h, List.getD_eq_getElem?_getD, List.getElem?_eq_getElem h]; rfl
  have e1 : rst L (k + 1) = stG (L.getD k []) (L.drop (k + 1)) := by unfold rst; rw [if_neg (by omega)]; rfl
  rw [e1]
  cases k with
  | zero =>
    cases L with
    | nil => simp at h
    | cons x r => simp [rst, pcs]
  | succ k =>
    unfold rst pcs
    rw [if_neg (by omega), hd]
    simp [stG, List.append_assoc]
theorem rst_end (L : List (List UInt8)) : rst L L.length = [] := by
  cases L with
  | nil => rfl
  | cons x r => unfold rst; rw [if_neg (by simp), List.drop_of_length_le (Nat.le_refl _)]; rfl
theorem nlT_len (x : List UInt8) : (nlT x).length ≤ 1 := by unfold nlT; split <;> simp
theorem pcs_len (L : List (List UInt8)) (k : Nat) : (pcs L k).length ≤ (L.getD k []).length + 2 := by
  have := nlT_len (L.getD k [])
  unfold pcs
  split <;> simp only [List.length_append, List.length_cons, List.length_nil] <;> omega
/-- tokens whose kinds are right -/
def VT (L : List (List UInt8)) : Prop := ∀ x ∈ L, kdB x ≠ 0
theorem kd_cases {x : List UInt8} (h : kdB x ≠ 0) : wrdB x = true ∨ numB x = true ∨ sgnB x = true := by
  unfold kdB at h
  by_cases h1 : wrdB x = true
  · exact .inl h1
  · by_cases h2 : numB x = true
    · exact .inr (.inl h2)
    · by_cases h3 : sgnB x = true
      · exact .inr (.inr h3)
      · rw [if_neg h1, if_neg h2, if_neg h3] at h; exact absurd rfl h
theorem kd_inn {x : List UInt8} (h : wrdB x = true ∨ numB x = true) : ∀ b ∈ x, innB b = true := by
  intro b hb
  rcases h with h | h
  · simp [wrdB] at h
    exact (wln_iff x).1 h.2 b hb
  · simp [numB] at h
    exact dig_inn b ((dln_iff x).1 h.1.1.1 b hb)
theorem kd_len {x : List UInt8} (h : kdB x ≠ 0) : 1 ≤ x.length ∧ x.length ≤ 12 := by
  rcases kd_cases h with h | h | h
  · simp [wrdB] at h; omega
  · simp [numB] at h; omega
  · obtain ⟨b, rfl, _⟩ := sgn_head h; simp
theorem wln_stG (x : List UInt8) (r : List (List UInt8)) (hx : ∀ b ∈ x, innB b = true) (hne : x ≠ []) (hr : VT r) : wln (nlT x ++ stG x r) = 0 := by
  have h59 : x ≠ [59] := fun e => by have := hx 59 (by rw [e]; simp); exact absurd this (by decide)
  have h40 : x ≠ [40] := fun e => by have := hx 40 (by rw [e]; simp); exact absurd this (by decide)
  unfold nlT; rw [if_neg h59, List.nil_append]
  cases r with
  | nil => rfl
  | cons y r =>
    unfold stG
    by_cases hb : blkB x y = true
    · rw [if_pos hb]; rfl
    · rw [if_neg hb, List.nil_append]
      unfold blkB at hb
      rw [if_neg (by simp [h59, h40])] at hb
      by_cases h1 : y = [59] ∨ y = [44] ∨ y = [41]
      · rcases h1 with rfl | rfl | rfl <;> rfl
      · rw [if_neg h1] at hb
        by_cases h2 : y = [40]
        · subst h2; rfl
        · rw [if_neg h2] at hb; exact absurd rfl hb
theorem prt_app (x u : List UInt8) (h : kdB x ≠ 0) (hu : (wrdB x = true ∨ numB x = true) → wln u = 0) : prt (x ++ u) = x := by
  rcases kd_cases h with h1 | h1 | h1
  · have hi := kd_inn (.inl h1)
    have hl := kd_len h
    unfold prt
    rw [wln_app x u ((wln_iff x).2 hi), hu (.inl h1), show max (x.length + 0) 1 = x.length by omega, List.take_left]
  · have hi := kd_inn (.inr h1)
    have hl := kd_len h
    unfold prt
    rw [wln_app x u ((wln_iff x).2 hi), hu (.inr h1), show max (x.length + 0) 1 = x.length by omega, List.take_left]
  · obtain ⟨b, rfl, hb, _⟩ := sgn_head h1
    exact prt_oth hb
theorem tok_gap {x : List UInt8} (h : kdB x ≠ 0) : ∃ b t, x = b :: t ∧ b.toNat ≠ 32 ∧ b.toNat ≠ 10 ∧ b.toNat ≠ 35 := by
  rcases kd_cases h with h1 | h1 | h1
  · obtain ⟨b, t, rfl, hb⟩ := wrd_head h1
    have := inn_not b (let_inn b hb)
    exact ⟨b, t, rfl, this.2.2, this.1, this.2.1⟩
  · obtain ⟨b, t, rfl, hb⟩ := num_head h1
    have := inn_not b (dig_inn b hb)
    exact ⟨b, t, rfl, this.2.2, this.1, this.2.1⟩
  · obtain ⟨b, rfl, _, h2, h3, h4⟩ := sgn_head h1
    exact ⟨b, [], rfl, h2, h3, h4⟩
/-- reading a token and what stands behind it -/
theorem rd_one (x u : List UInt8) (p : Nat) (h : kdB x ≠ 0) (hu : (wrdB x = true ∨ numB x = true) → wln u = 0) : rd (x ++ u) p = ((kdB x, x) :: (rd u (p + x.length)).1, (rd u (p + x.length)).2) := by
  have hp := prt_app x u h hu
  obtain ⟨b, t, rfl, h1, h2, h3⟩ := tok_gap h
  have e : (b :: t) ++ u = b :: (t ++ u) := rfl
  rw [e] at hp ⊢
  rw [rd_tok b (t ++ u) p h1 h2 h3 (by rw [hp]; exact h), hp]
  have : (b :: (t ++ u)).drop (b :: t).length = u := by rw [← e, List.drop_left]
  rw [this]
theorem rd_nl (x u : List UInt8) (p : Nat) : (rd (nlT x ++ u) p).1 = (rd u (p + (nlT x).length)).1 ∧ (rd (nlT x ++ u) p).2 = (rd u (p + (nlT x).length)).2 := by
  unfold nlT
  split
  · have := rd_sp 10 u p (by decide)
    exact ⟨congrArg Prod.fst this, congrArg Prod.snd this⟩
  · exact ⟨rfl, rfl⟩
theorem rd_stG : ∀ (r : List (List UInt8)) (a : List UInt8) (p : Nat), VT r → (rd (stG a r) p).1 = r.map (fun x => (kdB x, x)) ∧ (rd (stG a r) p).2 = -1
  | [], a, p, _ => ⟨rfl, rfl⟩
  | x :: r, a, p, h => by
    have hx : kdB x ≠ 0 := h x (by simp)
    have hr : VT r := fun y hy => h y (by simp [hy])
    have hne : x ≠ [] := by have := kd_len hx; intro e; rw [e] at this; simp at this
    have key : ∀ p, (rd (x ++ (nlT x ++ stG x r)) p).1 = (x :: r).map (fun x => (kdB x, x)) ∧ (rd (x ++ (nlT x ++ stG x r)) p).2 = -1 := by
      intro p
      rw [rd_one x _ p hx (fun hh => wln_stG x r (kd_inn hh) hne hr)]
      obtain ⟨n1, n2⟩ := rd_nl x (stG x r) (p + x.length)
      obtain ⟨i1, i2⟩ := rd_stG r x (p + x.length + (nlT x).length) hr
      simp only [n1, n2, i1, i2, List.map_cons, and_self]
    unfold stG
    by_cases hb : blkB a x = true
    · rw [if_pos hb]
      have := rd_sp 32 (x ++ (nlT x ++ stG x r)) p (by decide)
      show (rd (32 :: (x ++ (nlT x ++ stG x r))) p).1 = _ ∧ _
      rw [this]; exact key _
    · rw [if_neg hb]; exact key _
/-- the tokens of a standard text are those of the list -/
theorem rd_std (L : List (List UInt8)) (h : VT L) (p : Nat) : (rd (stdB L) p).1 = L.map (fun x => (kdB x, x)) ∧ (rd (stdB L) p).2 = -1 := by
  cases L with
  | nil => exact ⟨rfl, rfl⟩
  | cons x r =>
    have h2 := rd_stG (x :: r) [59] p h
    have e : stG [59] (x :: r) = stdB (x :: r) := by
      unfold stG stdB rst
      simp [blkB]
    rwa [e] at h2
end Go.Proofs.YtokipobjpinhmaaDoor
