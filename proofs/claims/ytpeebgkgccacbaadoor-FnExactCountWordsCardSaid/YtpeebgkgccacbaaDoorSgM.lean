/- Plain words of chapter 3: segments, layouts, positions. No program in sight. -/
import Derived.Test.YtpeebgkgccacbaaDoorIvM
namespace Go.Proofs.YtpeebgkgccacbaaDoor
set_option linter.unusedSimpArgs false
set_option linter.unusedVariables false
/-- a segment: kind, length, rise, the bounds of its resistance and of its force -/
structure Sg where
  k : Int
  l : Int
  r : Int
  a : Int
  b : Int
  c : Int
  d : Int
def sg0 : Sg := ⟨0, 0, 0, 0, 0, 0, 0⟩
/-- field j of a segment -/
def Sg.at (x : Sg) : Nat → Int
  | 0 => x.k
  | 1 => x.l
  | 2 => x.r
  | 3 => x.a
  | 4 => x.b
  | 5 => x.c
  | _ => x.d
/-- a range within the greatest force -/
def rngB (n a b : Int) : Bool := decide (n ≤ a) && decide (a ≤ b) && decide (b ≤ 20000)
/-- a force suits a kind -/
def frcB (k c d : Int) : Bool := if k = 0 then decide (c = 0) && decide (d = 0) else rngB 1 c d
/-- a rise suits a length -/
def slpB (r l : Int) : Bool := decide (-100000 ≤ r) && decide (r ≤ 100000) && decide (r ≤ l) && decide (-r ≤ l)
def kndB (k : Int) : Bool := decide (0 ≤ k) && decide (k ≤ 4)
def lenB (l : Int) : Bool := decide (1 ≤ l) && decide (l ≤ 200000)
def sgB (x : Sg) : Bool := kndB x.k && lenB x.l && slpB x.r x.l && rngB 0 x.a x.b && frcB x.k x.c x.d
theorem sgB_iff (x : Sg) : sgB x = true ↔ (0 ≤ x.k ∧ x.k ≤ 4) ∧ (1 ≤ x.l ∧ x.l ≤ 200000) ∧ (-100000 ≤ x.r ∧ x.r ≤ 100000 ∧ x.r ≤ x.l ∧ -x.r ≤ x.l) ∧ (0 ≤ x.a ∧ x.a ≤ x.b ∧ x.b ≤ 20000) ∧ ((x.k = 0 → x.c = 0 ∧ x.d = 0) ∧ (x.k ≠ 0 → 1 ≤ x.c ∧ x.c ≤ x.d ∧ x.d ≤ 20000)) := by
  unfold sgB kndB lenB slpB frcB rngB
  by_cases h : x.k = 0 <;> simp [h] <;> omega
theorem sgB_no (x : Sg) : sgB x = false ↔ ¬ ((0 ≤ x.k ∧ x.k ≤ 4) ∧ (1 ≤ x.l ∧ x.l ≤ 200000) ∧ (-100000 ≤ x.r ∧ x.r ≤ 100000 ∧ x.r ≤ x.l ∧ -x.r ≤ x.l) ∧ (0 ≤ x.a ∧ x.a ≤ x.b ∧ x.b ≤ 20000) ∧ ((x.k = 0 → x.c = 0 ∧ x.d = 0) ∧ (x.k ≠ 0 → 1 ≤ x.c ∧ x.c ≤ x.d ∧ x.d ≤ 20000))) := by
  rw [← sgB_iff]; simp
/-- a segment that is valid and holds -/
def hldB (x : Sg) : Bool := sgB x && (decide (x.k = 1) || decide (x.k = 3) || decide (x.k = 4))
/-- every field fits an int64 -/
def Sg.In (x : Sg) : Prop := ∀ j, -9223372036854775808 ≤ x.at j ∧ x.at j ≤ 9223372036854775807
/-- element k of a list of segments -/
def sx (L : List Sg) (k : Nat) : Sg := L.getD k sg0
theorem sx_of (L : List Sg) (k : Nat) (h : k < L.length) : sx L k = L[k] := by simp [sx, h]
theorem sx_mem (L : List Sg) (k : Nat) (h : k < L.length) : sx L k ∈ L := by rw [sx_of L k h]; exact List.getElem_mem _
theorem sx_take (L : List Sg) (n i : Nat) (h : i < n) : sx (L.take n) i = sx L i := by simp [sx, h]
/-- the sums of rises and of lengths of the first k -/
def upR (L : List Sg) (k : Nat) : Int := ((L.take k).map (·.r)).sum
def upL (L : List Sg) (k : Nat) : Int := ((L.take k).map (·.l)).sum
theorem upR_0 (L : List Sg) : upR L 0 = 0 := by simp [upR]
theorem upL_0 (L : List Sg) : upL L 0 = 0 := by simp [upL]
theorem upR_succ (L : List Sg) (k : Nat) (h : k < L.length) : upR L (k + 1) = upR L k + (sx L k).r := by
  unfold upR; rw [List.take_succ_eq_append_getElem h, List.map_append, List.sum_append, sx_of L k h]; simp
theorem upL_succ (L : List Sg) (k : Nat) (h : k < L.length) : upL L (k + 1) = upL L k + (sx L k).l := by
  unfold upL; rw [List.take_succ_eq_append_getElem h, List.map_append, List.sum_append, sx_of L k h]; simp
/-- the first k are valid -/
def okB (L : List Sg) (k : Nat) : Bool := (L.take k).all sgB
theorem okB_0 (L : List Sg) : okB L 0 = true := by simp [okB]
theorem okB_succ (L : List Sg) (k : Nat) (h : k < L.length) : okB L (k + 1) = (okB L k && sgB (sx L k)) := by
  unfold okB; rw [List.take_succ_eq_append_getElem h, List.all_append, sx_of L k h]; simp
theorem okB_at (L : List Sg) (n k : Nat) (hn : n ≤ L.length) (hk : k < n) (h : okB L n = true) : sgB (sx L k) = true := by
  unfold okB at h
  rw [List.all_eq_true] at h
  apply h
  rw [← sx_take L n k hk]
  exact sx_mem _ _ (by rw [List.length_take]; omega)
theorem okB_le (L : List Sg) (n k : Nat) (hk : k ≤ n) (h : okB L n = true) : okB L k = true := by
  unfold okB at *
  rw [List.all_eq_true] at *
  intro x hx
  exact h x ((List.take_subset_take_left L hk) hx)
theorem up_bd (L : List Sg) (k : Nat) (hk : k ≤ L.length) (h : okB L k = true) : -100000 * (k : Int) ≤ upR L k ∧ upR L k ≤ 100000 * (k : Int) ∧ (k : Int) ≤ upL L k ∧ upL L k ≤ 200000 * (k : Int) := by
  induction k with
  | zero => simp [upR_0, upL_0]
  | succ k ih =>
    have h1 := okB_at L (k + 1) k hk (by omega) h
    rw [sgB_iff] at h1
    have h2 := ih (by omega) (okB_le L (k + 1) k (by omega) h)
    rw [upR_succ L k (by omega), upL_succ L k (by omega)]
    omega
/-- a valid layout -/
def layB (L : List Sg) : Bool := decide (3 ≤ L.length) && decide (L.length ≤ 24) && okB L L.length && decide (upR L L.length = 0) && decide ((sx L (L.length - 1)).k = 4)
theorem layB_iff (L : List Sg) : layB L = true ↔ 3 ≤ L.length ∧ L.length ≤ 24 ∧ okB L L.length = true ∧ upR L L.length = 0 ∧ (sx L (L.length - 1)).k = 4 := by
  unfold layB; simp [and_assoc]
theorem layB_no (L : List Sg) : layB L = false ↔ ¬ (3 ≤ L.length ∧ L.length ≤ 24 ∧ okB L L.length = true ∧ upR L L.length = 0 ∧ (sx L (L.length - 1)).k = 4) := by
  rw [← layB_iff]; simp
def totL (L : List Sg) : Int := upL L L.length
theorem upL_mono (L : List Sg) (i j : Nat) (hij : i ≤ j) (hj : j ≤ L.length) (h : okB L L.length = true) : upL L i ≤ upL L j := by
  induction j with
  | zero => obtain rfl : i = 0 := by omega
            omega
  | succ j ih =>
    by_cases e : i = j + 1
    · rw [e]; exact Int.le_refl _
    · have h1 := okB_at L L.length j (by omega) (by omega) h
      rw [sgB_iff] at h1
      have := ih (by omega) (by omega)
      rw [upL_succ L j (by omega)]; omega
/-- position p lies in segment k -/
def IsAt (L : List Sg) (p : Int) (k : Nat) : Prop := k < L.length ∧ upL L k ≤ p ∧ p < upL L (k + 1)
theorem isAt_one (L : List Sg) (p : Int) (i j : Nat) (h : okB L L.length = true) (hi : IsAt L p i) (hj : IsAt L p j) : i = j := by
  obtain ⟨i0, i1, i2⟩ := hi
  obtain ⟨j0, j1, j2⟩ := hj
  by_cases c : i < j
  · have := upL_mono L (i + 1) j (by omega) (by omega) h; omega
  · by_cases c2 : j < i
    · have := upL_mono L (j + 1) i (by omega) (by omega) h; omega
    · omega
theorem isAt_some (L : List Sg) (p : Int) (h0 : 0 ≤ p) (n : Nat) (hn : n ≤ L.length) (h1 : p < upL L n) : ∃ k, IsAt L p k := by
  induction n with
  | zero => rw [upL_0] at h1; omega
  | succ n ih =>
    by_cases c : p < upL L n
    · exact ih (by omega) c
    · exact ⟨n, by omega, by omega, h1⟩
open Classical in
/-- the segment of a position -/
noncomputable def atK (L : List Sg) (p : Int) : Nat := if h : ∃ k, IsAt L p k then h.choose else 0
theorem atK_eq (L : List Sg) (p : Int) (k : Nat) (h : okB L L.length = true) (hk : IsAt L p k) : atK L p = k := by
  unfold atK
  have e : ∃ k, IsAt L p k := ⟨k, hk⟩
  rw [dif_pos e]
  exact isAt_one L p _ _ h e.choose_spec hk
/-- the code, the index, the distance of a position -/
def posE (L : List Sg) (p : Int) : Int := if layB L = true then (if 0 ≤ p ∧ p < totL L then 0 else 2) else 1
noncomputable def posK (L : List Sg) (p : Int) : Int := if posE L p = 0 then (atK L p : Int) else 0
noncomputable def posO (L : List Sg) (p : Int) : Int := if posE L p = 0 then p - upL L (atK L p) else 0
noncomputable def posH (L : List Sg) (p : Int) : Int := if posE L p = 0 then upR L (atK L p) + flo ((sx L (atK L p)).r * (p - upL L (atK L p))) (sx L (atK L p)).l else 0
theorem posE_ok {L : List Sg} {p : Int} (h : posE L p = 0) : layB L = true ∧ 0 ≤ p ∧ p < totL L := by
  unfold posE at h
  split at h
  · split at h
    · exact ⟨by assumption, by omega, by omega⟩
    · omega
  · omega
theorem pos_at {L : List Sg} {p : Int} (h : posE L p = 0) : IsAt L p (atK L p) := by
  obtain ⟨h1, h2, h3⟩ := posE_ok h
  rw [layB_iff] at h1
  obtain ⟨k, hk⟩ := isAt_some L p h2 L.length (Nat.le_refl _) h3
  rw [atK_eq L p k h1.2.2.1 hk]; exact hk
theorem layB_len {L : List Sg} {n : Nat} (hl : L.length = n) (h : ¬ (3 ≤ n ∧ n ≤ 24)) : layB L = false := by
  rw [layB_no]; omega
theorem layB_last {L : List Sg} {n : Nat} (hl : L.length = n) (h : (sx L (n - 1)).k ≠ 4) : layB L = false := by
  rw [layB_no]; rintro ⟨_, _, _, _, e⟩; rw [hl] at e; exact h e
theorem layB_bad {L : List Sg} {n k : Nat} (hl : L.length = n) (hk : k < n) (h : sgB (sx L k) = false) : layB L = false := by
  rw [layB_no]; rintro ⟨_, _, e, _, _⟩
  have := okB_at L L.length k (Nat.le_refl _) (by omega) e
  rw [h] at this; cases this
theorem layB_fin {L : List Sg} {n : Nat} (hl : L.length = n) (h1 : 3 ≤ n) (h2 : n ≤ 24) (h3 : (sx L (n - 1)).k = 4) (h4 : okB L n = true) : layB L = decide (upR L n = 0) := by
  subst hl
  unfold layB
  simp [h1, h2, h3, h4]
/-- the length of a track and its code -/
def tlV (L : List Sg) : Int := if layB L = true then totL L else 0
def tlE (L : List Sg) : Int := if layB L = true then 0 else 1
/-- where the segments begin -/
def strs (L : List Sg) : List Int := if layB L = true then (List.range L.length).map (upL L) else []
/-- the beginnings of the first segments, up to k; the rest is 0 yet -/
def sPart (L : List Sg) (n k : Nat) : List Int := (List.range n).map fun j => if j ≤ k then upL L j else 0
theorem sPart_len (L : List Sg) (n k : Nat) : (sPart L n k).length = n := by simp [sPart]
theorem sPart_0 (L : List Sg) (n : Nat) : sPart L n 0 = List.replicate n 0 := by
  unfold sPart
  rw [List.eq_replicate_iff]
  refine ⟨by simp, fun x hx => ?_⟩
  obtain ⟨j, _, rfl⟩ := List.mem_map.1 hx
  split
  · obtain rfl : j = 0 := by omega
    exact upL_0 L
  · rfl
theorem sPart_get (L : List Sg) (n k j : Nat) (h : j < n) : (sPart L n k)[j]? = some (if j ≤ k then upL L j else 0) := by
  simp [sPart, h]
theorem sPart_set (L : List Sg) (n k : Nat) (h : k + 1 < n) : (sPart L n k).set (k + 1) (upL L (k + 1)) = sPart L n (k + 1) := by
  apply List.ext_getElem?
  intro j
  by_cases hj : j < n
  · rw [List.getElem?_set, sPart_len, sPart_get L n k j hj, sPart_get L n (k + 1) j hj]
    by_cases e : k + 1 = j
    · subst e; simp [hj]
    · rw [if_neg e]
      by_cases c : j ≤ k
      · rw [if_pos c, if_pos (by omega)]
      · rw [if_neg c, if_neg (by omega)]
  · rw [List.getElem?_eq_none (by simp [sPart]; omega), List.getElem?_eq_none (by simp [sPart]; omega)]
theorem sPart_full (L : List Sg) (n k : Nat) (h : n ≤ k + 1) : sPart L n k = (List.range n).map (upL L) := by
  unfold sPart
  apply List.map_congr_left
  intro j hj
  rw [List.mem_range] at hj
  rw [if_pos (by omega)]
theorem pos_in {L : List Sg} {p : Int} {k : Nat} (hv : layB L = true) (h : IsAt L p k) (h0 : 0 ≤ p) :
    posE L p = 0 ∧ posK L p = (k : Int) ∧ posO L p = p - upL L k ∧ posH L p = upR L k + flo ((sx L k).r * (p - upL L k)) (sx L k).l := by
  obtain ⟨_, _, ho, _⟩ := (layB_iff L).1 hv
  have e : posE L p = 0 := by
    unfold posE
    obtain ⟨a, b, c⟩ := h
    have := upL_mono L (k + 1) L.length (by omega) (Nat.le_refl _) ho
    rw [if_pos hv, if_pos ⟨h0, by unfold totL; omega⟩]
  have q := atK_eq L p k ho h
  refine ⟨e, ?_, ?_, ?_⟩
  · unfold posK; rw [if_pos e, q]
  · unfold posO; rw [if_pos e, q]
  · unfold posH; rw [if_pos e, q]
theorem pos_no {L : List Sg} {p : Int} (c : Int) (hc : c ≠ 0) (h : posE L p = c) : posK L p = 0 ∧ posO L p = 0 ∧ posH L p = 0 := by
  have e : ¬ posE L p = 0 := by omega
  refine ⟨?_, ?_, ?_⟩
  · unfold posK; rw [if_neg e]
  · unfold posO; rw [if_neg e]
  · unfold posH; rw [if_neg e]
theorem posE_bad {L : List Sg} {p : Int} (hv : layB L = false) : posE L p = 1 := by unfold posE; rw [hv]; simp
theorem posE_out {L : List Sg} {p : Int} (hv : layB L = true) (h : p < 0 ∨ totL L ≤ p) : posE L p = 2 := by
  unfold posE; rw [if_pos hv, if_neg (by omega)]
/-- the beginnings of the first k segments -/
def sFst (L : List Sg) (k : Nat) : List Int := (List.range k).map (upL L)
theorem sFst_succ (L : List Sg) (k : Nat) : sFst L (k + 1) = sFst L k ++ [upL L k] := by simp [sFst, List.range_succ]
theorem sFst_len (L : List Sg) (k : Nat) : (sFst L k).length = k := by simp [sFst]
theorem flo_spec (a b : Int) (hb : 0 < b) : flo a b * b ≤ a ∧ a < (flo a b + 1) * b := by
  obtain ⟨e, h1, h2, h3, _⟩ := tmod_facts a b (by omega)
  have h4 := h3 hb
  have eq : b * a.tdiv b = a.tdiv b * b := Int.mul_comm _ _
  unfold flo
  split
  · rename_i hc
    have e2 : (a.tdiv b - 1) * b = a.tdiv b * b - b := by rw [Int.sub_mul]; omega
    have e3 : (a.tdiv b - 1 + 1) * b = a.tdiv b * b := by rw [show a.tdiv b - 1 + 1 = a.tdiv b by omega]
    rw [e2, e3]
    have : a < 0 := by
      by_cases h : a < 0
      · exact h
      · exact absurd (show (a < 0 ↔ b < 0) by omega) hc.2
    have := h2 (by omega)
    have := hc.1
    omega
  · rename_i hc
    have e3 : (a.tdiv b + 1) * b = a.tdiv b * b + b := by rw [Int.add_mul]; omega
    rw [e3]
    by_cases h0 : a.tmod b = 0
    · omega
    · have : 0 ≤ a := by
        by_cases h : a < 0
        · exact absurd ⟨h0, fun hh => by omega⟩ hc
        · omega
      have := h1 this
      omega
/-- a height on a segment lies between those of its ends -/
theorem flo_between (r o l : Int) (h0 : 0 ≤ o) (h1 : o < l) : min 0 r ≤ flo (r * o) l ∧ flo (r * o) l ≤ max 0 r := by
  obtain ⟨s1, s2⟩ := flo_spec (r * o) l (by omega)
  generalize flo (r * o) l = f at *
  by_cases hr : 0 ≤ r
  · have a1 : 0 ≤ r * o := Int.mul_nonneg hr h0
    have a2 : r * o ≤ r * l := Int.mul_le_mul_of_nonneg_left (by omega) hr
    have b1 : 0 * l < (f + 1) * l := by omega
    have b2 : f * l ≤ r * l := by omega
    have c1 := Int.lt_of_mul_lt_mul_right b1 (by omega)
    have c2 := Int.le_of_mul_le_mul_right b2 (by omega)
    omega
  · have a1 : r * o ≤ 0 := by
      have := Int.mul_nonneg (show 0 ≤ -r by omega) h0
      rw [Int.neg_mul] at this; omega
    have a2 : r * l ≤ r * o := by
      have := Int.mul_le_mul_of_nonneg_left (show o ≤ l by omega) (show 0 ≤ -r by omega)
      rw [Int.neg_mul, Int.neg_mul] at this; omega
    have b1 : f * l ≤ 0 * l := by omega
    have b2 : r * l < (f + 1) * l := by omega
    have c1 := Int.le_of_mul_le_mul_right b1 (by omega)
    have c2 := Int.lt_of_mul_lt_mul_right b2 (by omega)
    omega
theorem flo_zero (l : Int) (h : 0 < l) : flo 0 l = 0 := by
  have := flo_between 0 0 l (by omega) h
  simp at this
  omega
/-- two segments are equal, field by field -/
def eqB (x y : Sg) : Bool := x.k == y.k && x.l == y.l && x.r == y.r && (x.a == y.a && x.b == y.b) && (x.c == y.c && x.d == y.d)
theorem eqB_iff (x y : Sg) : eqB x y = true ↔ x = y := by
  unfold eqB
  cases x; cases y
  simp [and_assoc]
/-- the numbers of a row of segments, one behind another -/
def flt (L : List Sg) (j : Nat) : Int := (sx L (j / 7)).at (j % 7)
/-- of which the first k segments are written -/
def fltK (L : List Sg) (k j : Nat) : Int := if j < k * 7 then flt L j else 0
end Go.Proofs.YtpeebgkgccacbaaDoor
