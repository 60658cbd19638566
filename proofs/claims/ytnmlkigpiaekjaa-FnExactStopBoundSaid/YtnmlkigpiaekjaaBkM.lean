/- Plain words of chapter 4: blocks of a layout. No program in sight. -/
import Derived.Test.YtnmlkigpiaekjaaSgM
import Derived.Test.YtnmlkigpiaekjaaMathL
namespace Go.Proofs.Ytnmlkigpiaekjaa
set_option linter.unusedSimpArgs false
set_option linter.unusedVariables false
/-- a block: its number, its first segment, its last one, where it begins, its length -/
structure Sc where
  n : Int
  f : Int
  l : Int
  s : Int
  e : Int
def sc0 : Sc := ⟨0, 0, 0, 0, 0⟩
/-- the first segment of block b; the index behind its last one -/
def fstK (F : List Int) (b : Nat) : Nat := (gx F b).toNat
def endK (L : List Sg) (F : List Int) (b : Nat) : Nat := if b + 1 < F.length then fstK F (b + 1) else L.length
def stK (L : List Sg) (F : List Int) (b : Nat) : Int := upL L (fstK F b)
def lnK (L : List Sg) (F : List Int) (b : Nat) : Int := upL L (endK L F b) - upL L (fstK F b)
def sec (L : List Sg) (F : List Int) (b : Nat) : Sc := ⟨b, fstK F b, (endK L F b : Int) - 1, stK L F b, lnK L F b⟩
/-- ahead of each of the first k blocks but block 0 stands a segment that holds -/
def okH (L : List Sg) (F : List Int) (k : Nat) : Bool := (List.range k).all fun j => j == 0 || hldB (sx L (fstK F j - 1))
theorem okH_succ (L : List Sg) (F : List Int) (k : Nat) : okH L F (k + 1) = (okH L F k && (k == 0 || hldB (sx L (fstK F k - 1)))) := by
  unfold okH; rw [List.range_succ, List.all_append]; simp
theorem okH_1 (L : List Sg) (F : List Int) : okH L F 1 = true := by simp [okH]
theorem okH_at (L : List Sg) (F : List Int) (m k : Nat) (h : okH L F m = true) (hk : k < m) (h0 : k ≠ 0) : hldB (sx L (fstK F k - 1)) = true := by
  unfold okH at h
  rw [List.all_eq_true] at h
  have := h k (List.mem_range.2 hk)
  simpa [h0] using this
theorem okH_no (L : List Sg) (F : List Int) (m k : Nat) (hk : k < m) (h0 : k ≠ 0) (h : hldB (sx L (fstK F k - 1)) = false) : okH L F m = false := by
  rw [Bool.eq_false_iff]; intro g
  have := okH_at L F m k g hk h0
  rw [h] at this; cases this
/-- what the two say of lists beside a valid layout -/
def bkC (L : List Sg) (F : List Int) : Bool := decide (2 ≤ F.length) && decide (F.length ≤ 8) && risB F L.length && decide (gx F 0 = 0) && okH L F F.length
def bkB (L : List Sg) (F : List Int) : Bool := layB L && bkC L F
theorem bkC_iff (L : List Sg) (F : List Int) : bkC L F = true ↔ 2 ≤ F.length ∧ F.length ≤ 8 ∧ risB F L.length = true ∧ gx F 0 = 0 ∧ okH L F F.length = true := by
  unfold bkC; simp [and_assoc]
theorem bkC_no (L : List Sg) (F : List Int) : bkC L F = false ↔ ¬ (2 ≤ F.length ∧ F.length ≤ 8 ∧ risB F L.length = true ∧ gx F 0 = 0 ∧ okH L F F.length = true) := by
  rw [← bkC_iff]; simp
theorem bkB_lay {L : List Sg} {F : List Int} (h : bkB L F = true) : layB L = true ∧ bkC L F = true := by
  unfold bkB at h; rwa [Bool.and_eq_true] at h
theorem bkB_nl {L : List Sg} {F : List Int} (h : layB L = false) : bkB L F = false := by unfold bkB; rw [h]; rfl
theorem bkB_l {L : List Sg} {F : List Int} (h : layB L = true) : bkB L F = bkC L F := by unfold bkB; rw [h]; rfl
/-- the elements of a rising list -/
theorem ris_at {F : List Int} {m : Int} (h : risB F m = true) (b : Nat) (hb : b < F.length) : 0 ≤ gx F b ∧ gx F b < m ∧ (b ≠ 0 → gx F (b - 1) < gx F b) := by
  rw [risB_iff] at h
  have a := okAt_nn F m F.length (fun i hi => h i hi) b hb
  have c := h b hb
  unfold okAt at c
  rw [Bool.and_eq_true, decide_eq_true_eq, decide_eq_true_eq] at c
  refine ⟨a, c.2, fun h0 => ?_⟩
  cases b with
  | zero => exact absurd rfl h0
  | succ b => exact c.1
theorem ris_nat {F : List Int} {m : Int} (h : risB F m = true) (b : Nat) (hb : b < F.length) : gx F b = (fstK F b : Int) ∧ (fstK F b : Int) < m := by
  have := ris_at h b hb
  unfold fstK
  omega
theorem ris_succ {F : List Int} {m : Int} (h : risB F m = true) (b : Nat) (hb : b + 1 < F.length) : fstK F b < fstK F (b + 1) := by
  have h1 := ris_nat h b (by omega)
  have h2 := ris_nat h (b + 1) hb
  have h3 := (ris_at h (b + 1) hb).2.2 (by omega)
  rw [Nat.add_sub_cancel] at h3
  omega
theorem ris_mono {F : List Int} {m : Int} (h : risB F m = true) (i j : Nat) (hij : i ≤ j) (hj : j < F.length) : fstK F i ≤ fstK F j := by
  induction j with
  | zero => obtain rfl : i = 0 := by omega
            exact Nat.le_refl _
  | succ j ih =>
    by_cases e : i = j + 1
    · rw [e]; exact Nat.le_refl _
    · have := ih (by omega) (by omega)
      have := ris_succ h j hj
      omega
/-- block b: its bounds -/
theorem blk_bd {L : List Sg} {F : List Int} (h : bkC L F = true) (b : Nat) (hb : b < F.length) : gx F b = (fstK F b : Int) ∧ fstK F b < endK L F b ∧ endK L F b ≤ L.length := by
  obtain ⟨h1, h2, h3, h4, h5⟩ := (bkC_iff L F).1 h
  have a := ris_nat h3 b hb
  unfold endK
  split
  · rename_i hc
    have := ris_succ h3 b hc
    have := ris_nat h3 (b + 1) hc
    omega
  · omega
theorem endK_next {L : List Sg} {F : List Int} (b : Nat) (hb : b + 1 < F.length) : endK L F b = fstK F (b + 1) := by unfold endK; rw [if_pos hb]
theorem endK_last {L : List Sg} {F : List Int} (b : Nat) (hb : b + 1 = F.length) : endK L F b = L.length := by unfold endK; rw [if_neg (by omega)]
theorem fst_0 {L : List Sg} {F : List Int} (h : bkC L F = true) : fstK F 0 = 0 := by
  have := ((bkC_iff L F).1 h).2.2.2.1
  unfold fstK; rw [this]; rfl
theorem stK_0 {L : List Sg} {F : List Int} (h : bkC L F = true) : stK L F 0 = 0 := by unfold stK; rw [fst_0 h, upL_0]
theorem stK_succ {L : List Sg} {F : List Int} (b : Nat) (hb : b + 1 < F.length) : stK L F (b + 1) = stK L F b + lnK L F b := by
  unfold stK lnK; rw [endK_next b hb]; omega
theorem stK_end (L : List Sg) (F : List Int) (b : Nat) : stK L F b + lnK L F b = upL L (endK L F b) := by unfold stK lnK; omega
/-- segment s lies in block b -/
def IsB (L : List Sg) (F : List Int) (s : Nat) (b : Nat) : Prop := b < F.length ∧ fstK F b ≤ s ∧ s < endK L F b
theorem isB_one {L : List Sg} {F : List Int} (h : bkC L F = true) {s i j : Nat} (hi : IsB L F s i) (hj : IsB L F s j) : i = j := by
  obtain ⟨_, _, h3, _⟩ := (bkC_iff L F).1 h
  obtain ⟨i0, i1, i2⟩ := hi
  obtain ⟨j0, j1, j2⟩ := hj
  by_cases c : i < j
  · have := ris_mono h3 (i + 1) j (by omega) j0
    rw [endK_next i (by omega)] at i2; omega
  · by_cases c2 : j < i
    · have := ris_mono h3 (j + 1) i (by omega) i0
      rw [endK_next j (by omega)] at j2; omega
    · omega
/-- how far the model's search has come -/
theorem isB_some {L : List Sg} {F : List Int} (h : bkC L F = true) {s : Nat} (hs : s < L.length) : ∃ b, IsB L F s b := by
  obtain ⟨h1, h2, h3, h4, h5⟩ := (bkC_iff L F).1 h
  have key : ∀ m, m < F.length → (∃ b, IsB L F s b) ∨ fstK F m ≤ s := by
    intro m
    induction m with
    | zero => intro _; right; rw [fst_0 h]; omega
    | succ m ih =>
      intro hm
      rcases ih (by omega) with e | e
      · exact .inl e
      · by_cases c : fstK F (m + 1) ≤ s
        · exact .inr c
        · exact .inl ⟨m, by omega, e, by rw [endK_next m hm]; omega⟩
  rcases key (F.length - 1) (by omega) with e | e
  · exact e
  · exact ⟨F.length - 1, by omega, e, by rw [endK_last _ (by omega)]; exact hs⟩
/-- the first block that is wanted -/
def fnd (L : List Sg) (F : List Int) (p : Sc → Bool) : Option Nat := (List.range F.length).find? fun b => p (sec L F b)
def fndC (L : List Sg) (F : List Int) (p : Sc → Bool) : Sc := if bkB L F = true then (match fnd L F p with | some b => sec L F b | none => sc0) else sc0
def fndE (L : List Sg) (F : List Int) (p : Sc → Bool) : Int := if bkB L F = true then (match fnd L F p with | some _ => 0 | none => 2) else 1
theorem find_range {m : Nat} {q : Nat → Bool} {b : Nat} (hb : b < m) (h : q b = true) (hno : ∀ i, i < b → q i = false) : (List.range m).find? q = some b := by
  rw [List.find?_range_eq_some]
  exact ⟨h, by simpa using hb, fun j hj => by simp [hno j hj]⟩
theorem find_none {m : Nat} {q : Nat → Bool} (hno : ∀ i, i < m → q i = false) : (List.range m).find? q = none := by
  rw [List.find?_range_eq_none]
  intro i hi; simp [hno i hi]
theorem fnd_no {L : List Sg} {F : List Int} {p : Sc → Bool} (hno : ∀ i, i < F.length → p (sec L F i) = false) : fnd L F p = none := find_none hno
theorem fnd_yes {L : List Sg} {F : List Int} {p : Sc → Bool} {b : Nat} (hb : b < F.length) (h : p (sec L F b) = true) (hno : ∀ i, i < b → p (sec L F i) = false) : fnd L F p = some b := find_range hb h hno
/-- the three that are asked for -/
def isNo (b : Int) (x : Sc) : Bool := x.n == b
def hasS (s : Int) (x : Sc) : Bool := decide (x.f ≤ s) && decide (s ≤ x.l)
def hasP (p : Int) (x : Sc) : Bool := decide (x.s ≤ p) && decide (p < x.s + x.e)
theorem fnd_isNo {L : List Sg} {F : List Int} (b : Nat) (hb : b < F.length) : fnd L F (isNo b) = some b :=
  fnd_yes hb (by simp [isNo, sec]) (fun i hi => by simp [isNo, sec]; omega)
theorem fnd_isNo_no {L : List Sg} {F : List Int} (b : Int) (hb : b < 0 ∨ (F.length : Int) ≤ b) : fnd L F (isNo b) = none :=
  fnd_no (fun i hi => by simp [isNo, sec]; omega)
theorem hasS_iff {L : List Sg} {F : List Int} {s : Nat} {b : Nat} (hb : b < F.length) : hasS s (sec L F b) = true ↔ IsB L F s b := by
  unfold hasS sec IsB; simp; omega
theorem fnd_hasS {L : List Sg} {F : List Int} (h : bkC L F = true) {s b : Nat} (hb : IsB L F s b) : fnd L F (hasS s) = some b := by
  refine fnd_yes hb.1 ((hasS_iff hb.1).2 hb) (fun i hi => ?_)
  rw [Bool.eq_false_iff]; intro g
  have := isB_one h ((hasS_iff (by have := hb.1; omega)).1 g) hb
  omega
theorem fnd_hasS_no {L : List Sg} {F : List Int} (h : bkC L F = true) {s : Int} (hs : s < 0 ∨ (L.length : Int) ≤ s) : fnd L F (hasS s) = none := by
  refine fnd_no (fun i hi => ?_)
  have := blk_bd h i hi
  unfold hasS sec; simp; omega
theorem hasP_of {L : List Sg} {F : List Int} (hL : layB L = true) (h : bkC L F = true) {p : Int} {k b : Nat} (hk : IsAt L p k) (hb : b < F.length) : hasP p (sec L F b) = true ↔ IsB L F k b := by
  obtain ⟨_, _, ho, _⟩ := (layB_iff L).1 hL
  obtain ⟨g1, g2, g3⟩ := blk_bd h b hb
  obtain ⟨k1, k2, k3⟩ := hk
  have e : hasP p (sec L F b) = true ↔ upL L (fstK F b) ≤ p ∧ p < upL L (endK L F b) := by
    unfold hasP sec; simp [stK_end]; unfold stK; exact fun _ => Iff.rfl
  rw [e]
  constructor
  · rintro ⟨a, c⟩
    refine ⟨hb, ?_, ?_⟩
    · by_cases q : fstK F b ≤ k
      · exact q
      · have := upL_mono L (k + 1) (fstK F b) (by omega) (by omega) ho; omega
    · by_cases q : k < endK L F b
      · exact q
      · have := upL_mono L (endK L F b) k (by omega) (by omega) ho; omega
  · rintro ⟨_, a, c⟩
    have := upL_mono L (fstK F b) k a (by omega) ho
    have := upL_mono L (k + 1) (endK L F b) (by omega) (by omega) ho
    omega
theorem fnd_hasP {L : List Sg} {F : List Int} (hL : layB L = true) (h : bkC L F = true) {p : Int} {k b : Nat} (hk : IsAt L p k) (hb : IsB L F k b) : fnd L F (hasP p) = some b := by
  refine fnd_yes hb.1 ((hasP_of hL h hk hb.1).2 hb) (fun i hi => ?_)
  rw [Bool.eq_false_iff]; intro g
  have := isB_one h ((hasP_of hL h hk (by have := hb.1; omega)).1 g) hb
  omega
theorem fnd_hasP_no {L : List Sg} {F : List Int} (hL : layB L = true) (h : bkC L F = true) {p : Int} (hp : p < 0 ∨ totL L ≤ p) : fnd L F (hasP p) = none := by
  obtain ⟨_, _, ho, _⟩ := (layB_iff L).1 hL
  refine fnd_no (fun i hi => ?_)
  obtain ⟨g1, g2, g3⟩ := blk_bd h i hi
  have a := upL_mono L 0 (fstK F i) (by omega) (by omega) ho
  have c := upL_mono L (endK L F i) L.length (by omega) (Nat.le_refl _) ho
  rw [upL_0] at a
  have e : hasP p (sec L F i) = (decide (upL L (fstK F i) ≤ p) && decide (p < upL L (endK L F i))) := by
    unfold hasP sec; simp [stK_end]; unfold stK; rfl
  rw [e]; unfold totL at hp; simp; omega
theorem fndC_no {L : List Sg} {F : List Int} {p : Sc → Bool} (h : fndE L F p ≠ 0) : fndC L F p = sc0 := by
  unfold fndE at h
  unfold fndC
  split
  · rename_i hb; rw [if_pos hb] at h
    split
    · rename_i e; rw [e] at h; exact absurd rfl h
    · rfl
  · rfl
theorem fndC_some {L : List Sg} {F : List Int} {p : Sc → Bool} {b : Nat} (hb : bkB L F = true) (h : fnd L F p = some b) : fndC L F p = sec L F b ∧ fndE L F p = 0 := by
  unfold fndC fndE; rw [if_pos hb, if_pos hb, h]; exact ⟨rfl, rfl⟩
theorem fndC_none {L : List Sg} {F : List Int} {p : Sc → Bool} (hb : bkB L F = true) (h : fnd L F p = none) : fndC L F p = sc0 ∧ fndE L F p = 2 := by
  unfold fndC fndE; rw [if_pos hb, if_pos hb, h]; exact ⟨rfl, rfl⟩
theorem fndC_bad {L : List Sg} {F : List Int} {p : Sc → Bool} (hb : bkB L F = false) : fndC L F p = sc0 ∧ fndE L F p = 1 := by
  unfold fndC fndE; rw [hb]; exact ⟨rfl, rfl⟩
/-- the default blocks of the first k segments -/
def dfl (L : List Sg) : Nat → List Int
  | 0 => [0]
  | k + 1 => if hldB (sx L k) = true then dfl L k ++ [((k : Int) + 1)] else dfl L k
def dflE (L : List Sg) : Int := if layB L = true then (if (dfl L (L.length - 1)).length < 2 then 5 else if 8 < (dfl L (L.length - 1)).length then 3 else 0) else 1
def dflV (L : List Sg) : List Int := if dflE L = 0 then dfl L (L.length - 1) else []
theorem dfl_len (L : List Sg) (k : Nat) : 1 ≤ (dfl L k).length ∧ (dfl L k).length ≤ k + 1 := by
  induction k with
  | zero => simp [dfl]
  | succ k ih => unfold dfl; split <;> (try simp) <;> omega
theorem dfl_mem (L : List Sg) (k : Nat) : ∀ x ∈ dfl L k, 0 ≤ x ∧ x ≤ k := by
  induction k with
  | zero => simp [dfl]
  | succ k ih =>
    intro x hx
    unfold dfl at hx
    split at hx
    · rw [List.mem_append] at hx
      rcases hx with h | h
      · have := ih x h; omega
      · simp at h; omega
    · have := ih x hx; omega
/-- merged blocks -/
def mrgE (L : List Sg) (F : List Int) (b : Int) : Int := if fndE L F (isNo b) = 0 then (if b + 1 = F.length ∨ F.length = 2 then 5 else 0) else fndE L F (isNo b)
def mrgV (L : List Sg) (F : List Int) (b : Int) : List Int := if mrgE L F b = 0 then F.take (b.toNat + 1) ++ F.drop (b.toNat + 2) else []
end Go.Proofs.Ytnmlkigpiaekjaa
