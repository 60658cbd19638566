/- Plain words of chapter 10: traffic on blocks. No program in sight. -/
import Derived.Test.YtpeebgkgccacbaaMathL
namespace Go.Proofs.Ytpeebgkgccacbaa
set_option linter.unusedSimpArgs false
set_option linter.unusedVariables false
/-- the numbers 0 .. n-1 -/
def nm (n : Nat) : List Int := (List.range n).map fun (j : Nat) => (j : Int)
theorem nm_len (n : Nat) : (nm n).length = n := by simp [nm]
theorem nm_succ (n : Nat) : nm (n + 1) = nm n ++ [(n : Int)] := by unfold nm; rw [List.range_succ, List.map_append]; rfl
theorem nm_mem (n : Nat) (x : Int) : x ∈ nm n ↔ ∃ j : Nat, j < n ∧ (j : Int) = x := by unfold nm; rw [List.mem_map]; simp [List.mem_range]
/-- a train in place p of B blocks uses block b -/
def usB (B p b : Int) : Bool := p / 3 == b || (p % 3 == 2 && (p / 3 + 1) % B == b)
/-- the number of trains that use block b -/
def cn (B : Int) (l : List Int) (b : Int) : Nat := l.countP fun p => usB B p b
theorem cn_le (B : Int) (l : List Int) (b : Int) : cn B l b ≤ l.length := List.countP_le_length
theorem cn_nil (B b : Int) : cn B [] b = 0 := rfl
theorem cn_succ (B : Int) (l : List Int) (b : Int) (k : Nat) (hk : k < l.length) : cn B (l.take (k + 1)) b = cn B (l.take k) b + (if usB B (gx l k) b = true then 1 else 0) := by
  rw [List.take_succ_eq_append_getElem hk, gx_of l k hk]
  unfold cn
  rw [List.countP_append, List.countP_singleton]
/-- all places are in range -/
def plB (B : Int) (l : List Int) : Bool := l.all fun p => decide (0 ≤ p) && decide (p < 3 * B)
theorem plB_iff (B : Int) (l : List Int) : plB B l = true ↔ ∀ p ∈ l, 0 ≤ p ∧ p < 3 * B := by unfold plB; simp
theorem plB_at {B : Int} {l : List Int} (h : plB B l = true) (k : Nat) (hk : k < l.length) : 0 ≤ gx l k ∧ gx l k < 3 * B := (plB_iff B l).1 h _ (gx_mem l k hk)
theorem plB_no {B : Int} {l : List Int} (k : Nat) (hk : k < l.length) (h : ¬ (0 ≤ gx l k ∧ gx l k < 3 * B)) : plB B l = false := by
  rw [Bool.eq_false_iff]; intro g; exact h (plB_at g k hk)
theorem plB_take (B : Int) (l : List Int) (k : Nat) (hk : k < l.length) : plB B (l.take (k + 1)) = (plB B (l.take k) && (decide (0 ≤ gx l k) && decide (gx l k < 3 * B))) := by
  rw [List.take_succ_eq_append_getElem hk, gx_of l k hk]
  unfold plB
  rw [List.all_append]; simp
/-- a traffic is valid -/
def tfB (B : Int) (l : List Int) : Bool := decide (2 ≤ B) && decide (B ≤ 8) && decide (1 ≤ l.length) && decide (l.length ≤ 4) && plB B l
theorem tfB_iff (B : Int) (l : List Int) : tfB B l = true ↔ 2 ≤ B ∧ B ≤ 8 ∧ 1 ≤ l.length ∧ l.length ≤ 4 ∧ plB B l = true := by unfold tfB; simp [and_assoc]
theorem tfB_no {B : Int} {l : List Int} (h : ¬ (2 ≤ B ∧ B ≤ 8 ∧ 1 ≤ l.length ∧ l.length ≤ 4)) : tfB B l = false := by
  rw [Bool.eq_false_iff]; intro g; obtain ⟨a, b, c, d, _⟩ := (tfB_iff B l).1 g; exact h ⟨a, b, c, d⟩
theorem tfB_pl {B : Int} {l : List Int} {n : Nat} (hl : l.length = n) (h1 : 2 ≤ B) (h2 : B ≤ 8) (h3 : 1 ≤ n) (h4 : n ≤ 4) : tfB B l = plB B l := by
  unfold tfB; rw [decide_eq_true h1, decide_eq_true h2, decide_eq_true (by omega : 1 ≤ l.length), decide_eq_true (by omega : l.length ≤ 4)]; simp
/-- the loads of the blocks -/
def ldL (B : Int) (l : List Int) : List Int := (nm B.toNat).map fun b => (cn B l b : Int)
theorem ldL_len (B : Int) (l : List Int) : (ldL B l).length = B.toNat := by simp [ldL, nm]
theorem ldL_gx (B : Int) (l : List Int) (b : Nat) (h : b < B.toNat) : gx (ldL B l) b = cn B l b := by
  rw [gx_of _ _ (by rw [ldL_len]; exact h)]; simp [ldL, nm]
theorem ldL_nil (B : Int) : ldL B [] = List.replicate B.toNat 0 := by
  apply List.ext_getElem
  · simp [ldL_len]
  · intro i h1 h2; simp [ldL, nm, cn_nil]
/-- a valid traffic is safe -/
def slB (B : Int) (l : List Int) : Bool := (nm B.toNat).all fun b => decide (cn B l b ≤ 1)
def sfB (B : Int) (l : List Int) : Bool := tfB B l && slB B l
theorem slB_iff (B : Int) (l : List Int) : slB B l = true ↔ ∀ b : Nat, b < B.toNat → cn B l b ≤ 1 := by
  unfold slB; rw [List.all_eq_true]
  constructor
  · intro h b hb; simpa using h (b : Int) ((nm_mem _ _).2 ⟨b, hb, rfl⟩)
  · intro h x hx; obtain ⟨j, hj, rfl⟩ := (nm_mem _ _).1 hx; simpa using h j hj
theorem slB_no {B : Int} {l : List Int} (b : Nat) (hb : b < B.toNat) (h : 1 < cn B l b) : slB B l = false := by
  rw [Bool.eq_false_iff]; intro g; have := (slB_iff B l).1 g b hb; omega
theorem sfB_tf {B : Int} {l : List Int} (h : sfB B l = true) : tfB B l = true := by unfold sfB at h; simp at h; exact h.1
theorem sfB_sl {B : Int} {l : List Int} (h : tfB B l = true) : sfB B l = slB B l := by unfold sfB; rw [h]; rfl
theorem sfB_bad {B : Int} {l : List Int} (h : tfB B l = false) : sfB B l = false := by unfold sfB; rw [h]; rfl
/-- the blocks that a train uses: as the model finds them, and as the program does -/
def ulM (B p : Int) (k : Nat) : List Int := (nm k).filter (usB B p)
def ulP (B p : Int) : List Int := if p % 3 = 2 then [min (p / 3) ((p / 3 + 1) % B), max (p / 3) ((p / 3 + 1) % B)] else [p / 3]
theorem ulM_succ (B p : Int) (k : Nat) : ulM B p (k + 1) = ulM B p k ++ (if usB B p k = true then [(k : Int)] else []) := by
  unfold ulM; rw [nm_succ, List.filter_append]; simp [List.filter_cons]
theorem ul_fin : ∀ b : Fin 9, ∀ q : Fin 24, 2 ≤ b.val → q.val < 3 * b.val → ulP (b.val : Int) (q.val : Int) = ulM (b.val : Int) (q.val : Int) b.val := by decide +kernel
theorem ul_eq {B p : Int} (h1 : 2 ≤ B) (h2 : B ≤ 8) (h3 : 0 ≤ p) (h4 : p < 3 * B) : ulP B p = ulM B p B.toNat := by
  obtain ⟨b, rfl⟩ := Int.eq_ofNat_of_zero_le (show 0 ≤ B by omega)
  obtain ⟨q, rfl⟩ := Int.eq_ofNat_of_zero_le h3
  exact ul_fin ⟨b, by omega⟩ ⟨q, by omega⟩ (by simp; omega) (by simp; omega)
theorem ulP_fin : ∀ b : Fin 9, ∀ q : Fin 24, 2 ≤ b.val → q.val < 3 * b.val → ((ulP (b.val : Int) (q.val : Int)).length ≤ 2 ∧ (∀ x ∈ ulP (b.val : Int) (q.val : Int), 0 ≤ x ∧ x < (b.val : Int)) ∧ ∀ c : Fin 8, (ulP (b.val : Int) (q.val : Int)).count (c.val : Int) = if c.val < b.val ∧ usB (b.val : Int) (q.val : Int) (c.val : Int) = true then 1 else 0) := by decide +kernel
theorem ulP_in {B p : Int} (h1 : 2 ≤ B) (h2 : B ≤ 8) (h3 : 0 ≤ p) (h4 : p < 3 * B) : (ulP B p).length ≤ 2 ∧ (∀ x ∈ ulP B p, 0 ≤ x ∧ x < B) ∧ ∀ c : Nat, c < B.toNat → (ulP B p).count (c : Int) = if usB B p c = true then 1 else 0 := by
  obtain ⟨b, rfl⟩ := Int.eq_ofNat_of_zero_le (show 0 ≤ B by omega)
  obtain ⟨q, rfl⟩ := Int.eq_ofNat_of_zero_le h3
  obtain ⟨g1, g2, g3⟩ := ulP_fin ⟨b, by omega⟩ ⟨q, by omega⟩ (by simp; omega) (by simp; omega)
  refine ⟨g1, g2, fun c hc => ?_⟩
  have hc' : c < b := by simpa using hc
  have := g3 ⟨c, by omega⟩
  simpa [hc'] using this
/-- counting up -/
def incs (u bs : List Int) (k : Nat) : List Int := (bs.take k).foldl (fun u b => u.set b.toNat (gx u b.toNat + 1)) u
theorem incs_succ (u bs : List Int) (k : Nat) (h : k < bs.length) : incs u bs (k + 1) = (incs u bs k).set (gx bs k).toNat (gx (incs u bs k) (gx bs k).toNat + 1) := by
  unfold incs; rw [List.take_succ_eq_append_getElem h, List.foldl_append, gx_of bs k h]; rfl
theorem incs_len (u bs : List Int) (k : Nat) : (incs u bs k).length = u.length := by
  unfold incs
  generalize bs.take k = c
  induction c generalizing u with
  | nil => rfl
  | cons a c ih => rw [List.foldl_cons, ih]; simp
theorem gx_set (u : List Int) (a b : Nat) (v : Int) (hb : b < u.length) : gx (u.set a v) b = if a = b then v else gx u b := by
  rw [gx_of _ _ (by simpa using hb), List.getElem_set, gx_of u b hb]
theorem incs_gx (u bs : List Int) (k : Nat) (hk : k ≤ bs.length) (hb : ∀ x ∈ bs, 0 ≤ x) (c : Nat) (hc : c < u.length) : gx (incs u bs k) c = gx u c + ((bs.take k).count (c : Int) : Nat) := by
  induction k with
  | zero => simp [incs]
  | succ k ih =>
    have h0 := hb _ (gx_mem bs k (by omega))
    rw [incs_succ u bs k (by omega), gx_set _ _ _ _ (by rw [incs_len]; exact hc), ih (by omega), List.take_succ_eq_append_getElem (by omega), ← gx_of bs k (by omega), List.count_append, List.count_singleton]
    by_cases e : (gx bs k).toNat = c
    · have e' : (gx bs k == (c : Int)) = true := by simp; omega
      rw [if_pos e, e', if_pos rfl, e, ih (by omega)]; omega
    · have e' : (gx bs k == (c : Int)) = false := by simp; omega
      rw [if_neg e, e', if_neg (by simp)]; simp
/-- the loads behind one train more -/
theorem ld_inc {B : Int} {l : List Int} (k : Nat) (hk : k < l.length) (h1 : 2 ≤ B) (h2 : B ≤ 8) (hp : 0 ≤ gx l k ∧ gx l k < 3 * B) (m : Nat) (hm : m = (ulP B (gx l k)).length) : incs (ldL B (l.take k)) (ulP B (gx l k)) m = ldL B (l.take (k + 1)) := by
  obtain ⟨g1, g2, g3⟩ := ulP_in h1 h2 hp.1 hp.2
  apply List.ext_getElem
  · rw [incs_len, ldL_len, ldL_len]
  · intro i a1 a2
    have hi : i < B.toNat := by rw [ldL_len] at a2; exact a2
    rw [← gx_of _ _ a1, ← gx_of _ _ a2, incs_gx _ _ _ (by omega) (fun x hx => (g2 x hx).1) _ (by rw [ldL_len]; exact hi), ldL_gx _ _ _ hi, ldL_gx _ _ _ hi, cn_succ B l i k hk, hm, List.take_length, g3 i hi]
    omega
/-- a load is small -/
theorem ld_bd {B : Int} {l : List Int} (hl : l.length ≤ 4) : ∀ x ∈ ldL B l, 0 ≤ x ∧ x ≤ 4 := by
  intro x hx
  obtain ⟨b, _, rfl⟩ := List.mem_map.1 hx
  have := cn_le B l b
  omega
/-- a move -/
def mvP (B p : Int) : Int := (p + 1) % (3 * B)
def mvL (B : Int) (l : List Int) (t : Nat) : List Int := l.set t (mvP B (gx l t))
theorem mvL_len (B : Int) (l : List Int) (t : Nat) : (mvL B l t).length = l.length := by simp [mvL]
theorem mvP_in {B p : Int} (h : 0 < B) : 0 ≤ mvP B p ∧ mvP B p < 3 * B := ⟨Int.emod_nonneg _ (by omega), Int.emod_lt_of_pos _ (by omega)⟩
theorem mvL_tf {B : Int} {l : List Int} (t : Nat) (h : tfB B l = true) : tfB B (mvL B l t) = true := by
  obtain ⟨a, b, c, d, e⟩ := (tfB_iff B l).1 h
  rw [tfB_iff, mvL_len]
  refine ⟨a, b, c, d, (plB_iff _ _).2 fun p hp => ?_⟩
  rcases List.mem_or_eq_of_mem_set hp with h | h
  · exact (plB_iff _ _).1 e p h
  · rw [h]; exact mvP_in (by omega)
/-- the allowed moves among the first k trains -/
def alL (B : Int) (l : List Int) (k : Nat) : List Int := (nm k).filter fun t => sfB B (mvL B l t.toNat)
theorem alL_succ (B : Int) (l : List Int) (k : Nat) : alL B l (k + 1) = alL B l k ++ (if sfB B (mvL B l k) = true then [(k : Int)] else []) := by
  unfold alL; rw [nm_succ, List.filter_append]; simp [List.filter_cons]
theorem alL_len (B : Int) (l : List Int) (k : Nat) : (alL B l k).length ≤ k := by unfold alL; exact Nat.le_trans (List.length_filter_le _ _) (by rw [nm_len]; exact Nat.le_refl _)
theorem alL_mem (B : Int) (l : List Int) (k : Nat) (x : Int) : x ∈ alL B l k ↔ ∃ j : Nat, j < k ∧ (j : Int) = x ∧ sfB B (mvL B l j) = true := by
  unfold alL; rw [List.mem_filter, nm_mem]
  constructor
  · rintro ⟨⟨j, hj, rfl⟩, h⟩; exact ⟨j, hj, rfl, by simpa using h⟩
  · rintro ⟨j, hj, rfl, h⟩; exact ⟨⟨j, hj, rfl⟩, by simpa using h⟩
/-- the code of a traffic and a train -/
def hasT (l : List Int) (t : Int) : Bool := decide (0 ≤ t) && decide (t < (l.length : Int))
def thE (B : Int) (l : List Int) (t : Int) : Int := if tfB B l = true then (if hasT l t = true then 0 else 2) else 1
theorem thE_1 {B : Int} {l : List Int} {t : Int} (h : tfB B l = false) : thE B l t = 1 := by unfold thE; rw [h]; rfl
theorem thE_2 {B : Int} {l : List Int} {t : Int} (h : tfB B l = true) (k : hasT l t = false) : thE B l t = 2 := by unfold thE; rw [h, k]; rfl
theorem thE_0 {B : Int} {l : List Int} {t : Int} (h : tfB B l = true) (k : hasT l t = true) : thE B l t = 0 := by unfold thE; rw [h, k]; rfl
theorem hasT_iff (l : List Int) (t : Int) : hasT l t = true ↔ 0 ≤ t ∧ t < (l.length : Int) := by unfold hasT; simp
/-- runs of moves: the places behind the first k moves -/
def rnL (B : Int) (l ts : List Int) : Nat → List Int
  | 0 => l
  | k + 1 => mvL B (rnL B l ts k) (gx ts k).toNat
theorem rnL_len (B : Int) (l ts : List Int) (k : Nat) : (rnL B l ts k).length = l.length := by
  induction k with
  | zero => rfl
  | succ k ih => show (mvL B _ _).length = _; rw [mvL_len, ih]
theorem rnL_tf {B : Int} {l : List Int} (ts : List Int) (h : tfB B l = true) (k : Nat) : tfB B (rnL B l ts k) = true := by
  induction k with
  | zero => exact h
  | succ k ih => exact mvL_tf _ ih
/-- all of the first k + 1 states are safe -/
def rnS (B : Int) (l ts : List Int) (k : Nat) : Bool := (List.range (k + 1)).all fun j => sfB B (rnL B l ts j)
theorem rnS_iff (B : Int) (l ts : List Int) (k : Nat) : rnS B l ts k = true ↔ ∀ j, j ≤ k → sfB B (rnL B l ts j) = true := by
  unfold rnS; rw [List.all_eq_true]
  constructor
  · intro h j hj; exact h j (List.mem_range.2 (by omega))
  · intro h j hj; exact h j (by have := List.mem_range.1 hj; omega)
theorem rnS_no {B : Int} {l ts : List Int} {k : Nat} (j : Nat) (hj : j ≤ k) (h : sfB B (rnL B l ts j) = false) : rnS B l ts k = false := by
  rw [Bool.eq_false_iff]; intro g; rw [(rnS_iff _ _ _ _).1 g j hj] at h; cases h
def rnE (B : Int) (l ts : List Int) : Int := if tfB B l = true then (if ts.length ≤ 200 then (if ts.all (hasT l) = true then (if rnS B l ts ts.length = true then 0 else 5) else 2) else 3) else 1
end Go.Proofs.Ytpeebgkgccacbaa
