/- Plain words of chapter 5: trains and sensors on the track. No program in sight. -/
import Derived.Test.YtehinlecppbjeaaBkM
namespace Go.Proofs.Ytehinlecppbjeaa
set_option linter.unusedSimpArgs false
set_option linter.unusedVariables false
/-- a position of the track -/
def isP (T p : Int) : Bool := decide (0 ≤ p) && decide (p < T)
theorem isP_iff (T p : Int) : isP T p = true ↔ 0 ≤ p ∧ p < T := by unfold isP; simp
theorem isP_no (T p : Int) : isP T p = false ↔ ¬ (0 ≤ p ∧ p < T) := by rw [← isP_iff]; simp
/-- a length of trains that fit on the track -/
def isN (T n : Int) : Bool := decide (1 ≤ n) && decide (n ≤ 40000) && decide (n ≤ T)
theorem isN_iff (T n : Int) : isN T n = true ↔ 1 ≤ n ∧ n ≤ 40000 ∧ n ≤ T := by unfold isN; simp [and_assoc]
theorem isN_no (T n : Int) : isN T n = false ↔ ¬ (1 ≤ n ∧ n ≤ 40000 ∧ n ≤ T) := by rw [← isN_iff]; simp
/-- all of these are positions -/
def allP (T : Int) (F : List Int) : Bool := F.all (isP T)
def trsB (T n : Int) (F : List Int) : Bool := isN T n && allP T F
def mvB (T p d : Int) : Bool := isP T p && (decide (0 ≤ d) && decide (d ≤ T))
theorem mvB_iff (T p d : Int) : mvB T p d = true ↔ (0 ≤ p ∧ p < T) ∧ 0 ≤ d ∧ d ≤ T := by unfold mvB; simp [isP_iff]
theorem mvB_no (T p d : Int) : mvB T p d = false ↔ ¬ ((0 ≤ p ∧ p < T) ∧ 0 ≤ d ∧ d ≤ T) := by rw [← mvB_iff]; simp
theorem trsB_nil (T n : Int) : trsB T n [] = isN T n := by simp [trsB, allP]
theorem trsB_one (T n p : Int) : trsB T n [p] = (isN T n && isP T p) := by simp [trsB, allP]
theorem trsB_two (T n p q : Int) : trsB T n [p, q] = (isN T n && (isP T p && isP T q)) := by simp [trsB, allP]
theorem tot_bd {L : List Sg} (h : layB L = true) : 3 ≤ totL L ∧ totL L ≤ 4800000 := by
  obtain ⟨h3, h24, ho, _⟩ := (layB_iff L).1 h
  have := up_bd L L.length (Nat.le_refl _) ho
  unfold totL; omega
/-- the codes -/
def trE (L : List Sg) (p n : Int) : Int := if layB L = true then (if trsB (totL L) n [p] = true then 0 else 2) else 1
def mvE (L : List Sg) (p d : Int) : Int := if layB L = true then (if mvB (totL L) p d = true then 0 else 2) else 1
theorem trE_bad {L : List Sg} {p n : Int} (h : layB L = false) : trE L p n = 1 := by unfold trE; rw [h]; rfl
theorem mvE_bad {L : List Sg} {p n : Int} (h : layB L = false) : mvE L p n = 1 := by unfold mvE; rw [h]; rfl
theorem trE_ok {L : List Sg} {p n : Int} (h : trE L p n = 0) : layB L = true ∧ isN (totL L) n = true ∧ isP (totL L) p = true := by
  unfold trE at h
  split at h
  · split at h
    · rename_i a b
      rw [trsB_one, Bool.and_eq_true] at b
      exact ⟨a, b⟩
    · omega
  · omega
theorem trE_yes {L : List Sg} {p n : Int} (h : layB L = true) (hn : isN (totL L) n = true) (hp : isP (totL L) p = true) : trE L p n = 0 := by
  unfold trE; rw [if_pos h, if_pos (by rw [trsB_one, hn, hp]; rfl)]
theorem trE_no {L : List Sg} {p n : Int} (h : layB L = true) (hp : (isN (totL L) n && isP (totL L) p) = false) : trE L p n = 2 := by
  unfold trE; rw [if_pos h, if_neg (by rw [trsB_one, hp]; simp)]
theorem mvE_ok {L : List Sg} {p d : Int} (h : mvE L p d = 0) : layB L = true ∧ mvB (totL L) p d = true := by
  unfold mvE at h
  split at h
  · split at h
    · rename_i a b; exact ⟨a, b⟩
    · omega
  · omega
theorem mvE_yes {L : List Sg} {p d : Int} (h : layB L = true) (hm : mvB (totL L) p d = true) : mvE L p d = 0 := by
  unfold mvE; rw [if_pos h, if_pos hm]
theorem mvE_no {L : List Sg} {p d : Int} (h : layB L = true) (hm : mvB (totL L) p d = false) : mvE L p d = 2 := by
  unfold mvE; rw [if_pos h, if_neg (by rw [hm]; simp)]
/-- where the rear is; where the front comes to; how far ahead another front is -/
def rearK (T p n : Int) : Int := (p - n + 1) % T
def rearV (L : List Sg) (p n : Int) : Int := if trE L p n = 0 then rearK (totL L) p n else 0
def movV (L : List Sg) (p d : Int) : Int := if mvE L p d = 0 then (p + d) % totL L else 0
def ahead (T a b : Int) : Int := (b - a) % T
theorem mod_nn {a T : Int} (h : 0 ≤ a) (h1 : a < T) : a % T = a := Int.emod_eq_of_lt h h1
theorem mod_up {a T : Int} (h : -T ≤ a) (h1 : a < 0) : a % T = a + T := by
  rw [← Int.add_emod_right a T]; exact Int.emod_eq_of_lt (by omega) (by omega)
theorem mod_dn {a T : Int} (h : T ≤ a) (h1 : a < T + T) : a % T = a - T := by
  rw [← Int.sub_emod_right a T]; exact Int.emod_eq_of_lt (by omega) (by omega)
/-- the remainder as both reckon it -/
theorem mod_go {a T : Int} (h : -T ≤ a) (hT : 0 < T) : (a + T).tmod T = a % T := by
  rw [Int.tmod_eq_emod_of_nonneg (by omega), Int.add_emod_right]
theorem mod_go2 (a T : Int) (hT : 0 < T) : (a.tmod T + T).tmod T = a % T := by
  have f := tmod_facts a T (by omega)
  rw [Int.tmod_eq_emod_of_nonneg (by omega), Int.add_emod_right]
  have e : a = a.tmod T + T * a.tdiv T := by omega
  conv => rhs; rw [e]
  rw [Int.add_mul_emod_self_left]
theorem rear_cases {T p n : Int} (hp : 0 ≤ p ∧ p < T) (hn : 1 ≤ n ∧ n ≤ T) : (n ≤ p + 1 ∧ rearK T p n = p - n + 1) ∨ (p + 1 < n ∧ rearK T p n = p - n + 1 + T) := by
  unfold rearK
  by_cases c : n ≤ p + 1
  · exact .inl ⟨c, mod_nn (by omega) (by omega)⟩
  · exact .inr ⟨by omega, mod_up (by omega) (by omega)⟩
theorem mov_cases {T p d : Int} (hp : 0 ≤ p ∧ p < T) (hd : 0 ≤ d ∧ d ≤ T) : (p + d < T ∧ (p + d) % T = p + d) ∨ (T ≤ p + d ∧ (p + d) % T = p + d - T) := by
  by_cases c : p + d < T
  · exact .inl ⟨c, mod_nn (by omega) c⟩
  · exact .inr ⟨by omega, mod_dn (by omega) (by omega)⟩
theorem ahead_cases {T a b : Int} (ha : 0 ≤ a ∧ a < T) (hb : 0 ≤ b ∧ b < T) : (a ≤ b ∧ ahead T a b = b - a) ∨ (b < a ∧ ahead T a b = b - a + T) := by
  unfold ahead
  by_cases c : a ≤ b
  · exact .inl ⟨c, mod_nn (by omega) (by omega)⟩
  · exact .inr ⟨by omega, mod_up (by omega) (by omega)⟩
theorem rear_moves {T p n d : Int} (hp : 0 ≤ p ∧ p < T) : ((p + d) % T - n + 1) % T = (rearK T p n + d) % T := by
  unfold rearK
  rw [show (p + d) % T - n + 1 = (p + d) % T + (1 - n) by omega, Int.emod_add_emod, Int.emod_add_emod]
  congr 1; omega
/-- two trains are apart -/
def apB (T a b n : Int) : Bool := decide (n ≤ ahead T a b) && decide (n ≤ T - ahead T a b)
theorem apB_sym {T a b n : Int} (ha : 0 ≤ a ∧ a < T) (hb : 0 ≤ b ∧ b < T) (hn : 1 ≤ n) : apB T a b n = apB T b a n := by
  have h1 := ahead_cases ha hb
  have h2 := ahead_cases hb ha
  unfold apB
  rcases h1 with ⟨c, e⟩ | ⟨c, e⟩ <;> rcases h2 with ⟨c2, e2⟩ | ⟨c2, e2⟩ <;> rw [e, e2, Bool.eq_iff_iff] <;> simp <;> omega
def gapE (L : List Sg) (a b n : Int) : Int := if trE L a n = 0 then (if trE L b n = 0 then (if apB (totL L) a b n = true then 0 else 5) else trE L b n) else trE L a n
def gapV (L : List Sg) (a b n : Int) : Int := if gapE L a b n = 0 then ahead (totL L) a b - n else 0
theorem gapE_ok {L : List Sg} {a b n : Int} (h : gapE L a b n = 0) : trE L a n = 0 ∧ trE L b n = 0 ∧ apB (totL L) a b n = true := by
  unfold gapE at h
  split at h
  · split at h
    · split at h
      · exact ⟨by assumption, by assumption, by assumption⟩
      · omega
    · rename_i a b; exact absurd h b
  · rename_i b; exact absurd h b
/-- the first k trains are apart from one another -/
def sepK (T n : Int) (F : List Int) (k : Nat) : Bool := (List.range k).all fun i => (List.range i).all fun j => apB T (gx F i) (gx F j) n
def sepJ (T n : Int) (F : List Int) (i k : Nat) : Bool := (List.range k).all fun j => apB T (gx F i) (gx F j) n
theorem sepK_0 (T n : Int) (F : List Int) : sepK T n F 0 = true := by simp [sepK]
theorem sepJ_0 (T n : Int) (F : List Int) (i : Nat) : sepJ T n F i 0 = true := by simp [sepJ]
theorem sepK_succ (T n : Int) (F : List Int) (k : Nat) : sepK T n F (k + 1) = (sepK T n F k && sepJ T n F k k) := by
  unfold sepK sepJ; rw [List.range_succ, List.all_append]; simp
theorem sepJ_succ (T n : Int) (F : List Int) (i k : Nat) : sepJ T n F i (k + 1) = (sepJ T n F i k && apB T (gx F i) (gx F k) n) := by
  unfold sepJ; rw [List.range_succ, List.all_append]; simp
theorem sepK_no {T n : Int} {F : List Int} {m i j : Nat} (hi : i < m) (hj : j < i) (h : apB T (gx F i) (gx F j) n = false) : sepK T n F m = false := by
  rw [Bool.eq_false_iff]; intro g
  unfold sepK at g
  rw [List.all_eq_true] at g
  have := g i (List.mem_range.2 hi)
  rw [List.all_eq_true] at this
  have := this j (List.mem_range.2 hj)
  rw [h] at this; cases this
def sepB (L : List Sg) (F : List Int) (n : Int) : Bool := layB L && decide (F.length ≤ 4) && trsB (totL L) n F && sepK (totL L) n F F.length
theorem allP_at {T : Int} {F : List Int} (h : allP T F = true) (k : Nat) (hk : k < F.length) : 0 ≤ gx F k ∧ gx F k < T := by
  unfold allP at h
  rw [List.all_eq_true] at h
  exact (isP_iff _ _).1 (h _ (gx_mem F k hk))
theorem allP_no {T : Int} {F : List Int} {k : Nat} (hk : k < F.length) (h : isP T (gx F k) = false) : allP T F = false := by
  rw [Bool.eq_false_iff]; intro g
  have := allP_at g k hk
  rw [← isP_iff, h] at this; cases this
theorem allP_of {T : Int} {F : List Int} (h : ∀ k, k < F.length → isP T (gx F k) = true) : allP T F = true := by
  unfold allP
  rw [List.all_eq_true]
  intro x hx
  obtain ⟨k, hk, rfl⟩ := List.mem_iff_getElem.1 hx
  rw [← gx_of F k hk]; exact h k hk
/-- sensors -/
def senB (L : List Sg) (S : List Int) : Bool := layB L && decide (S.length ≤ 32) && risB S (totL L)
theorem senB_iff (L : List Sg) (S : List Int) : senB L S = true ↔ layB L = true ∧ S.length ≤ 32 ∧ risB S (totL L) = true := by
  unfold senB; simp [and_assoc]
theorem senB_no (L : List Sg) (S : List Int) : senB L S = false ↔ ¬ (layB L = true ∧ S.length ≤ 32 ∧ risB S (totL L) = true) := by
  rw [← senB_iff]; simp
/-- the indices of the elements that lie from a to b -/
def onI (S : List Int) (a b : Int) (k : Nat) : List Int := ((List.range k).filter fun i => decide (a ≤ gx S i) && decide (gx S i ≤ b)).map (fun (i : Nat) => (i : Int))
theorem onI_0 (S : List Int) (a b : Int) : onI S a b 0 = [] := by simp [onI]
theorem onI_succ (S : List Int) (a b : Int) (k : Nat) : onI S a b (k + 1) = if a ≤ gx S k ∧ gx S k ≤ b then onI S a b k ++ [(k : Int)] else onI S a b k := by
  unfold onI; rw [List.range_succ, List.filter_append, List.map_append]
  by_cases h1 : a ≤ gx S k <;> by_cases h2 : gx S k ≤ b <;> simp [h1, h2]
theorem onI_len (S : List Int) (a b : Int) (k : Nat) : (onI S a b k).length ≤ k := by
  unfold onI; rw [List.length_map]
  exact Nat.le_trans (List.length_filter_le _ _) (by simp)
theorem onI_mem (S : List Int) (a b : Int) (k : Nat) : ∀ x ∈ onI S a b k, 0 ≤ x ∧ x < k := by
  intro x hx
  unfold onI at hx
  rw [List.mem_map] at hx
  obtain ⟨i, hi, rfl⟩ := hx
  have := List.mem_range.1 (List.mem_filter.1 hi).1
  omega
/-- the code and the list of the sensors that are covered -/
def cvE (L : List Sg) (S : List Int) (p n : Int) : Int := if senB L S = true then trE L p n else 1
def cvK (T : Int) (S : List Int) (p n : Int) (k : Nat) : List Int := ((List.range k).filter fun i => decide ((p - gx S i) % T < n)).map (fun (i : Nat) => (i : Int))
def cvV (L : List Sg) (S : List Int) (p n : Int) : List Int := if cvE L S p n = 0 then cvK (totL L) S p n S.length else []
theorem cvK_0 (T : Int) (S : List Int) (p n : Int) : cvK T S p n 0 = [] := by simp [cvK]
theorem cvK_succ (T : Int) (S : List Int) (p n : Int) (k : Nat) : cvK T S p n (k + 1) = if (p - gx S k) % T < n then cvK T S p n k ++ [(k : Int)] else cvK T S p n k := by
  unfold cvK; rw [List.range_succ, List.filter_append, List.map_append]
  by_cases h1 : (p - gx S k) % T < n <;> simp [h1]
theorem cvK_len (T : Int) (S : List Int) (p n : Int) (k : Nat) : (cvK T S p n k).length ≤ k := by
  unfold cvK; rw [List.length_map]
  exact Nat.le_trans (List.length_filter_le _ _) (by simp)
theorem cvK_mem (T : Int) (S : List Int) (p n : Int) (k : Nat) : ∀ x ∈ cvK T S p n k, 0 ≤ x ∧ x < k := by
  intro x hx
  unfold cvK at hx
  rw [List.mem_map] at hx
  obtain ⟨i, hi, rfl⟩ := hx
  have := List.mem_range.1 (List.mem_filter.1 hi).1
  omega
/-- rising lists grow -/
theorem ris_le {S : List Int} {m : Int} (h : risB S m = true) (i j : Nat) (hij : i < j) (hj : j < S.length) : gx S i < gx S j := by
  induction j with
  | zero => omega
  | succ j ih =>
    have := (ris_at h (j + 1) hj).2.2 (by omega)
    rw [Nat.add_sub_cancel] at this
    by_cases e : i = j
    · rw [e]; exact this
    · have := ih (by omega) (by omega); omega
/-- what is low comes first -/
theorem low_first (P Q : Nat → Bool) (n : Nat) (h : ∀ i j, i < n → j < n → P i = true → Q j = true → i < j) : (List.range n).filter P ++ (List.range n).filter Q = (List.range n).filter fun i => P i || Q i := by
  induction n with
  | zero => simp
  | succ n ih =>
    have ih := ih (fun i j hi hj => h i j (by omega) (by omega))
    rw [List.range_succ, List.filter_append, List.filter_append, List.filter_append, ← ih]
    by_cases hp : P n = true
    · have e : (List.range n).filter Q = [] := by
        rw [List.filter_eq_nil_iff]
        intro j hj hq
        have := h n j (by omega) (by have := List.mem_range.1 hj; omega) hp hq
        have := List.mem_range.1 hj; omega
      have e2 : Q n = false := by
        rw [Bool.eq_false_iff]; intro hq
        have := h n n (by omega) (by omega) hp hq; omega
      rw [e]; simp [hp, e2]
    · have hp : P n = false := by simpa using hp
      have e : List.filter (fun i => P i || Q i) [n] = List.filter Q [n] := by simp [List.filter_cons, hp]
      simp [hp, e]
/-- the sensors of both parts of a train -/
theorem cv_parts {T : Int} {S : List Int} {p n : Int} (hr : risB S T = true) (hp : 0 ≤ p ∧ p < T) (hn : 1 ≤ n ∧ n ≤ T) :
    onI S 0 (rearK T p n + n - 1 - T) S.length ++ onI S (rearK T p n) (min (rearK T p n + n - 1) (T - 1)) S.length = cvK T S p n S.length := by
  have hc := rear_cases hp hn
  unfold onI cvK
  rw [← List.map_append, low_first]
  · congr 1
    apply List.filter_congr
    intro i hi
    obtain ⟨s0, s1, _⟩ := ris_at hr i (List.mem_range.1 hi)
    have hb := ahead_cases (T := T) (a := gx S i) (b := p) ⟨s0, s1⟩ hp
    unfold ahead at hb
    rw [Bool.eq_iff_iff]
    simp only [Bool.or_eq_true, Bool.and_eq_true, decide_eq_true_eq]
    rcases hc with ⟨c, e⟩ | ⟨c, e⟩ <;> rcases hb with ⟨c2, e2⟩ | ⟨c2, e2⟩ <;> rw [e, e2] <;> omega
  · intro i j hi hj h1 h2
    simp only [Bool.and_eq_true, decide_eq_true_eq] at h1 h2
    by_cases c : i < j
    · exact c
    · have : gx S j ≤ gx S i := by
        by_cases e : i = j
        · rw [e]; exact Int.le_refl _
        · have := ris_le hr j i (by omega) hi; omega
      rcases hc with ⟨c, e⟩ | ⟨c, e⟩ <;> rw [e] at h1 h2 <;> omega
/-- the sensors that a front comes to -/
def psE (L : List Sg) (S : List Int) (p d : Int) : Int := if senB L S = true then mvE L p d else 1
def psK (T : Int) (S : List Int) (p d : Int) : List Int := onI S (p + 1) (min (p + d) (T - 1)) S.length ++ onI S 0 (p + d - T) S.length
def psV (L : List Sg) (S : List Int) (p d : Int) : List Int := if psE L S p d = 0 then psK (totL L) S p d else []
theorem cvE_ok {L : List Sg} {S : List Int} {p n : Int} (h : cvE L S p n = 0) : senB L S = true ∧ trE L p n = 0 := by
  unfold cvE at h; split at h
  · exact ⟨by assumption, h⟩
  · omega
theorem psE_ok {L : List Sg} {S : List Int} {p n : Int} (h : psE L S p n = 0) : senB L S = true ∧ mvE L p n = 0 := by
  unfold psE at h; split at h
  · exact ⟨by assumption, h⟩
  · omega
/-- how many sensors lie at a front or behind it -/
def fstS (S : List Int) (p : Int) : Nat → Nat
  | 0 => 0
  | k + 1 => if gx S k ≤ p then k + 1 else fstS S p k
/-- the sensor that is met as number k -/
def rotI (f n k : Nat) : Nat := (f + k) % n
/-- how far it is to sensor i -/
def dstS (T p s : Int) : Int := if (s - p) % T = 0 then T else (s - p) % T
/-- what is met by the first k -/
def metK (T : Int) (S : List Int) (p d : Int) (f k : Nat) : List Int := ((List.range k).filter fun j => decide (dstS T p (gx S (rotI f S.length j)) ≤ d)).map fun (j : Nat) => ((rotI f S.length j : Nat) : Int)
theorem metK_0 (T : Int) (S : List Int) (p d : Int) (f : Nat) : metK T S p d f 0 = [] := by simp [metK]
theorem metK_succ (T : Int) (S : List Int) (p d : Int) (f k : Nat) : metK T S p d f (k + 1) = if dstS T p (gx S (rotI f S.length k)) ≤ d then metK T S p d f k ++ [((rotI f S.length k : Nat) : Int)] else metK T S p d f k := by
  unfold metK; rw [List.range_succ, List.filter_append, List.map_append]
  by_cases h1 : dstS T p (gx S (rotI f S.length k)) ≤ d <;> simp [h1]
theorem metK_len (T : Int) (S : List Int) (p d : Int) (f k : Nat) : (metK T S p d f k).length ≤ k := by
  unfold metK; rw [List.length_map]
  exact Nat.le_trans (List.length_filter_le _ _) (by simp)
theorem metK_mem (T : Int) (S : List Int) (p d : Int) (f k : Nat) (h0 : 0 < S.length) : ∀ x ∈ metK T S p d f k, 0 ≤ x ∧ x < S.length := by
  intro x hx
  unfold metK at hx
  rw [List.mem_map] at hx
  obtain ⟨i, hi, rfl⟩ := hx
  have : rotI f S.length i < S.length := Nat.mod_lt _ h0
  omega
/-- the cut: the first f lie at the front or behind it, the others ahead -/
def IsCut (S : List Int) (p : Int) (f : Nat) : Prop := f ≤ S.length ∧ (∀ i, i < f → gx S i ≤ p) ∧ (∀ i, f ≤ i → i < S.length → p < gx S i)
theorem isCut_of {S : List Int} {T p : Int} (hr : risB S T = true) {f : Nat} (hf : f ≤ S.length) (h1 : ∀ i, i < f → gx S i ≤ p) (h2 : f < S.length → p < gx S f) : IsCut S p f := by
  refine ⟨hf, h1, fun i hi hl => ?_⟩
  by_cases e : i = f
  · rw [e]; exact h2 (by omega)
  · have := ris_le hr f i (by omega) hl
    have := h2 (by omega); omega
theorem filter_shift (P : Nat → Bool) (f n : Nat) (hf : f ≤ n) (h : ∀ i, i < f → P i = false) : (List.range n).filter P = ((List.range (n - f)).map (f + ·)).filter P := by
  conv => lhs; rw [show n = f + (n - f) by omega, List.range_add, List.filter_append]
  have e : (List.range f).filter P = [] := by
    rw [List.filter_eq_nil_iff]
    intro j hj
    rw [h j (List.mem_range.1 hj)]; simp
  rw [e, List.nil_append]
theorem filter_cut (P : Nat → Bool) (f n : Nat) (hf : f ≤ n) (h : ∀ i, f ≤ i → i < n → P i = false) : (List.range n).filter P = (List.range f).filter P := by
  rw [show n = f + (n - f) by omega, List.range_add, List.filter_append]
  have e : ((List.range (n - f)).map (f + ·)).filter P = [] := by
    rw [List.filter_eq_nil_iff]
    intro j hj
    rw [List.mem_map] at hj
    obtain ⟨i, hi, rfl⟩ := hj
    have := List.mem_range.1 hi
    rw [h (f + i) (by omega) (by omega)]; simp
  rw [e, List.append_nil]
theorem rot_lo {f n k : Nat} (h : f + k < n) : rotI f n k = f + k := Nat.mod_eq_of_lt h
theorem rot_hi {f n k : Nat} (h : n ≤ f + k) (h2 : f + k < n + n) : rotI f n k = f + k - n := by
  unfold rotI; rw [Nat.mod_eq_sub_mod h, Nat.mod_eq_of_lt (by omega)]
theorem met_all {T : Int} {S : List Int} {p d : Int} {f : Nat} (hr : risB S T = true) (hp : 0 ≤ p ∧ p < T) (hd : 0 ≤ d ∧ d ≤ T) (hc : IsCut S p f) :
    metK T S p d f S.length = psK T S p d := by
  obtain ⟨hf, h1, h2⟩ := hc
  have rng : ∀ i, i < S.length → 0 ≤ gx S i ∧ gx S i < T := fun i hi => ⟨(ris_at hr i hi).1, (ris_at hr i hi).2.1⟩
  have dst : ∀ i, i < S.length → dstS T p (gx S i) = if p < gx S i then gx S i - p else gx S i - p + T := by
    intro i hi
    have := rng i hi
    unfold dstS
    have ha := ahead_cases (T := T) (a := p) (b := gx S i) hp this
    unfold ahead at ha
    rcases ha with ⟨c, e⟩ | ⟨c, e⟩ <;> rw [e] <;> split <;> split <;> omega
  unfold psK onI
  rw [filter_shift (fun i => decide (p + 1 ≤ gx S i) && decide (gx S i ≤ min (p + d) (T - 1))) f S.length hf (by intro i hi; have := h1 i hi; simp; omega),
    filter_cut (fun i => decide (0 ≤ gx S i) && decide (gx S i ≤ p + d - T)) f S.length hf (by intro i hi hl; have := h2 i hi hl; have := rng i hl; simp; omega)]
  unfold metK
  conv => lhs; rw [show List.range S.length = List.range ((S.length - f) + f) by congr 1; omega, List.range_add, List.filter_append, List.map_append]
  congr 1
  · rw [List.filter_map, List.map_map, List.map_congr_left (g := fun j => ((f + j : Nat) : Int))]
    · rw [List.filter_congr (q := (fun i => decide (p + 1 ≤ gx S i) && decide (gx S i ≤ min (p + d) (T - 1))) ∘ (f + ·))]
      · rfl
      · intro j hj
        have hj := List.mem_range.1 hj
        have e : rotI f S.length j = f + j := rot_lo (by omega)
        rw [e, dst (f + j) (by omega), if_pos (h2 (f + j) (by omega) (by omega))]
        have := h2 (f + j) (by omega) (by omega)
        have := rng (f + j) (by omega)
        rw [Bool.eq_iff_iff]; simp; omega
    · intro j hj
      have hj := List.mem_range.1 (List.mem_filter.1 hj).1
      simp only [rot_lo (f := f) (n := S.length) (k := j) (by omega)]
  · rw [List.filter_map, List.map_map, List.map_congr_left (g := fun j => ((j : Nat) : Int))]
    · rw [List.filter_congr (q := fun i => decide (0 ≤ gx S i) && decide (gx S i ≤ p + d - T))]
      intro j hj
      have hj := List.mem_range.1 hj
      have e : rotI f S.length (S.length - f + j) = j := by rw [rot_hi (by omega) (by omega)]; omega
      simp only [Function.comp]
      rw [e, dst j (by omega), if_neg (by have := h1 j hj; omega)]
      have := rng j (by omega)
      rw [Bool.eq_iff_iff]; simp; omega
    · intro j hj
      have hj := List.mem_range.1 (List.mem_filter.1 hj).1
      have e : rotI f S.length (S.length - f + j) = j := by rw [rot_hi (by omega) (by omega)]; omega
      simp only [Function.comp, e]
end Go.Proofs.Ytehinlecppbjeaa
