/- The rules of programs, in plain words. -/
import Derived.Test.YtokipobjpinhmaaDoorPst
namespace Go.Proofs.YtokipobjpinhmaaDoor
open Go
set_option linter.unusedVariables false
set_option linter.unusedSimpArgs false
/-- the first place of a text in a list, or -1 -/
def ixF (x : List UInt8) : List (List UInt8) → Nat → Int
  | [], _ => -1
  | y :: r, k => if y = x then (k : Int) else ixF x r (k + 1)
def ixV (W : List (List UInt8)) (x : List UInt8) : Int := ixF x W 0
theorem ixF_hit (x : List UInt8) : ∀ (W : List (List UInt8)) (k j : Nat), j < W.length → wx W j = x → (∀ i, i < j → wx W i ≠ x) → ixF x W k = (k + j : Nat)
  | [], k, j, h, _, _ => by simp at h
  | y :: r, k, 0, h, e, _ => by
    have : y = x := e
    simp [ixF, this]
  | y :: r, k, j + 1, h, e, hm => by
    have h0 : y ≠ x := hm 0 (by omega)
    simp only [ixF, if_neg h0]
    rw [ixF_hit x r (k + 1) j (by simpa using h) e (fun i hi => hm (i + 1) (by omega))]
    congr 1; omega
theorem ixF_miss (x : List UInt8) : ∀ (W : List (List UInt8)) (k : Nat), (∀ i, i < W.length → wx W i ≠ x) → ixF x W k = -1
  | [], k, _ => rfl
  | y :: r, k, hm => by
    have h0 : y ≠ x := hm 0 (by simp)
    simp only [ixF, if_neg h0]
    exact ixF_miss x r (k + 1) (fun i hi => hm (i + 1) (by simpa using hi))
theorem ixV_hit (W : List (List UInt8)) (x : List UInt8) (j : Nat) (h : j < W.length) (e : wx W j = x) (hm : ∀ i, i < j → wx W i ≠ x) : ixV W x = (j : Int) := by
  have := ixF_hit x W 0 j h e hm
  unfold ixV; rw [this, Nat.zero_add]
theorem ixV_miss (W : List (List UInt8)) (x : List UInt8) (hm : ∀ i, i < W.length → wx W i ≠ x) : ixV W x = -1 := ixF_miss x W 0 hm
theorem ixV_mem (W : List (List UInt8)) (x : List UInt8) : 0 ≤ ixV W x ↔ x ∈ W := by
  by_cases h : ∃ j, j < W.length ∧ wx W j = x
  · have hw : ∃ j, (j < W.length ∧ wx W j = x) ∧ ∀ i, i < j → ¬(i < W.length ∧ wx W i = x) := by
      obtain ⟨j, hj⟩ := h
      induction j using Nat.strongRecOn with
      | ind j ih =>
        by_cases hb : ∃ i, i < j ∧ (i < W.length ∧ wx W i = x)
        · obtain ⟨i, hi, hx⟩ := hb
          exact ih i hi hx
        · exact ⟨j, hj, fun i hi hx => hb ⟨i, hi, hx⟩⟩
    obtain ⟨j, ⟨h1, h2⟩, h3⟩ := hw
    rw [ixV_hit W x j h1 h2 (fun i hi e => h3 i hi ⟨by omega, e⟩)]
    exact ⟨fun _ => h2 ▸ wx_mem W j h1, fun _ => by omega⟩
  · rw [ixV_miss W x (fun i hi e => h ⟨i, hi, e⟩)]
    refine ⟨fun hh => by omega, fun hx => ?_⟩
    obtain ⟨j, hj, e⟩ := List.mem_iff_getElem.1 hx
    exact absurd ⟨j, hj, by rw [← wx_at W j hj]; exact e⟩ h
theorem ixV_lo (W : List (List UInt8)) (x : List UInt8) : -1 ≤ ixV W x ∧ ixV W x < (W.length : Int) ∨ ixV W x = -1 := by
  have : ∀ (W : List (List UInt8)) (k : Nat), ixF x W k = -1 ∨ ((k : Int) ≤ ixF x W k ∧ ixF x W k < (k : Int) + W.length) := by
    intro W
    induction W with
    | nil => intro k; exact .inl rfl
    | cons y r ih =>
      intro k
      unfold ixF
      split
      · right; simp; omega
      · rcases ih (k + 1) with h | h
        · exact .inl h
        · right; simp; omega
  rcases this W 0 with h | h
  · exact .inr h
  · left; unfold ixV; simp at h; omega
/-- the targets of lines -/
def tgs (M : List Lne) : List (List UInt8) := M.map Prod.fst
theorem tgs_len (M : List Lne) : (tgs M).length = M.length := by simp [tgs]
theorem tgs_at (M : List Lne) (j : Nat) (h : j < M.length) : wx (tgs M) j = ltx M j := by
  unfold wx tgs ltx
  rw [List.getD_eq_getElem?_getD, List.getD_eq_getElem?_getD, List.getElem?_map, List.getElem?_eq_getElem h]; rfl
/-- whether a name is used in terms -/
def usB (L : List Trm) (x : List UInt8) : Bool := L.any fun t => decide (t.1 = 1) && decide (t.2.1 = x)
theorem usB_hit (L : List Trm) (x : List UInt8) (j : Nat) (h : j < L.length) (hk : rkx L j = 1) (hs : rsx L j = x) : usB L x = true := by
  unfold usB
  rw [List.any_eq_true]
  exact ⟨_, rk_mem L j h, by simp [hk, hs]⟩
theorem usB_miss (L : List Trm) (x : List UInt8) (hm : ∀ j, j < L.length → ¬(rkx L j = 1 ∧ rsx L j = x)) : usB L x = false := by
  cases hb : usB L x with
  | false => rfl
  | true =>
    unfold usB at hb
    rw [List.any_eq_true] at hb
    obtain ⟨t, ht, he⟩ := hb
    obtain ⟨j, hj, rfl⟩ := List.mem_iff_getElem.1 ht
    rw [rk_at L j hj] at he
    simp at he
    exact absurd he (hm j hj)
/-- the lines that use a name -/
def usL (M : List Lne) (x : List UInt8) : Nat → List Int
  | 0 => []
  | k + 1 => if usB (lrx M k) x = true then usL M x k ++ [(k : Int)] else usL M x k
def useV (M : List Lne) (x : List UInt8) : List Int := usL M x M.length
theorem usL_rng (M : List Lne) (x : List UInt8) : ∀ k, ∀ y ∈ usL M x k, 0 ≤ y ∧ y < (k : Int)
  | 0, y, h => by simp [usL] at h
  | k + 1, y, h => by
    unfold usL at h
    split at h
    · rcases List.mem_append.1 h with h | h
      · have := usL_rng M x k y h; omega
      · simp at h; omega
    · have := usL_rng M x k y h; omega
theorem usL_len (M : List Lne) (x : List UInt8) : ∀ k, (usL M x k).length ≤ k
  | 0 => by simp [usL]
  | k + 1 => by
    unfold usL
    have := usL_len M x k
    split <;> simp <;> omega
/-- the terms of a kind of blocks -/
def blB (t : Trm) : Bool := decide (7 ≤ t.1) && decide (t.1 ≤ 12)
def blT (L : List Trm) : List Trm := L.filter blB
def blV (M : List Lne) : List Trm := M.flatMap fun x => blT x.2
/-- the names used in terms, one by one -/
def nmT (L : List Trm) : List (List UInt8) := (L.filter fun t => decide (t.1 = 1)).map fun t => t.2.1
def nmV (M : List Lne) : List (List UInt8) := M.flatMap fun x => nmT x.2
/-! the six rules -/
def ru1 (p : Prg) : Bool := decide (p.ins ++ p.vrs ++ p.outs).Nodup
def ru2 (p : Prg) : Bool := decide (p.grd = []) || decide (p.grd ∈ p.ins ++ p.vrs)
def ru3 (p : Prg) : Bool := (tgs p.lns).all fun x => decide (x ∈ p.vrs ++ p.outs)
def ru4 (p : Prg) : Bool := decide (tgs p.lns).Nodup
def ru5 (p : Prg) : Bool := (p.vrs ++ p.outs).all fun x => decide (x ∈ tgs p.lns)
def ru6 (p : Prg) : Bool := (nmV p.lns).all fun x => decide (x ∈ p.ins ++ p.vrs)
def fltV (p : Prg) : Int := if ru1 p = false then 1 else if ru2 p = false then 2 else if ru3 p = false then 3 else if ru4 p = false then 4 else if ru5 p = false then 5 else if ru6 p = false then 6 else 0
theorem nodup_le : ∀ (A B : List (List UInt8)), A.Nodup → (∀ x ∈ A, x ∈ B) → A.length ≤ B.length
  | [], B, _, _ => by simp
  | a :: r, B, hn, hs => by
    rw [List.nodup_cons] at hn
    have ha : a ∈ B := hs a (by simp)
    have h := nodup_le r (B.erase a) hn.2 (fun x hx => (List.mem_erase_of_ne (fun e => hn.1 (by rw [← e]; exact hx))).2 (hs x (by simp [hx])))
    rw [List.length_erase_of_mem ha] at h
    have : 0 < B.length := List.length_pos_of_mem ha
    simp; omega
theorem nodup_full (A B : List (List UInt8)) (hn : B.Nodup) (hs : ∀ x ∈ B, x ∈ A) (hl : A.length ≤ B.length) : ∀ x ∈ A, x ∈ B := by
  intro x hx
  apply Decidable.byContradiction
  intro hb
  have h := nodup_le B (A.erase x) hn (fun y hy => (List.mem_erase_of_ne (fun e => hb (by rw [← e]; exact hy))).2 (hs y hy))
  rw [List.length_erase_of_mem hx] at h
  have : 0 < A.length := List.length_pos_of_mem hx
  omega
/-- rule 5 by numbers, where rules 1, 3 and 4 are kept -/
theorem ru5_len (p : Prg) (h1 : ru1 p = true) (h3 : ru3 p = true) (h4 : ru4 p = true) : ru5 p = !decide (p.lns.length < p.vrs.length + p.outs.length) := by
  have h1 : (p.ins ++ p.vrs ++ p.outs).Nodup := by simpa [ru1] using h1
  have h4 : (tgs p.lns).Nodup := by simpa [ru4] using h4
  have h3 : ∀ x ∈ tgs p.lns, x ∈ p.vrs ++ p.outs := by
    intro x hx
    have := List.all_eq_true.1 h3 x hx
    simpa using this
  have hn : (p.vrs ++ p.outs).Nodup := by
    rw [List.append_assoc, List.nodup_append] at h1
    exact h1.2.1
  cases h5 : ru5 p with
  | true =>
    have hs : ∀ x ∈ p.vrs ++ p.outs, x ∈ tgs p.lns := by
      intro x hx
      have := List.all_eq_true.1 h5 x hx
      simpa using this
    have := nodup_le _ _ hn hs
    rw [tgs_len, List.length_append] at this
    simp; omega
  | false =>
    by_cases hl : p.lns.length < p.vrs.length + p.outs.length
    · simp [hl]
    · exfalso
      have hs := nodup_full (p.vrs ++ p.outs) (tgs p.lns) h4 h3 (by rw [tgs_len, List.length_append]; omega)
      have : ru5 p = true := List.all_eq_true.2 fun x hx => by simpa using hs x hx
      rw [h5] at this; cases this
end Go.Proofs.YtokipobjpinhmaaDoor
