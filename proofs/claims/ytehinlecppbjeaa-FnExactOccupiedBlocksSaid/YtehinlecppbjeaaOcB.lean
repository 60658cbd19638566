/- Plain words of chapter 5: the blocks that a train occupies. No program in sight. -/
import Derived.Test.YtehinlecppbjeaaOcM
namespace Go.Proofs.Ytehinlecppbjeaa
set_option linter.unusedSimpArgs false
set_option linter.unusedVariables false
/-- an interval comes to a block -/
def inB (L : List Sg) (F : List Int) (a z : Int) (b : Nat) : Bool := decide (max a (stK L F b) ≤ min z (stK L F b + lnK L F b - 1))
/-- a train occupies a block -/
def ocB (L : List Sg) (F : List Int) (p n : Int) (b : Nat) : Bool := inB L F (rearK (totL L) p n) (min (rearK (totL L) p n + n - 1) (totL L - 1)) b || inB L F 0 (rearK (totL L) p n + n - 1 - totL L) b
/-- where blocks lie -/
theorem blk_at {L : List Sg} {F : List Int} (h : bkB L F = true) (b : Nat) (hb : b < F.length) : 0 ≤ stK L F b ∧ 1 ≤ lnK L F b ∧ stK L F b + lnK L F b ≤ totL L := by
  obtain ⟨hl, hk⟩ := bkB_lay h
  obtain ⟨_, _, ho, _⟩ := (layB_iff L).1 hl
  obtain ⟨g1, g2, g3⟩ := blk_bd hk b hb
  have a1 := upL_mono L 0 (fstK F b) (by omega) (by omega) ho
  have a2 := upL_mono L (fstK F b + 1) (endK L F b) (by omega) g3 ho
  have a3 := upL_mono L (endK L F b) L.length g3 (Nat.le_refl _) ho
  have a4 := upL_succ L (fstK F b) (by omega)
  have a5 := (sgB_iff _).1 (okB_at L L.length (fstK F b) (Nat.le_refl _) (by omega) ho)
  rw [upL_0] at a1
  have := stK_end L F b
  unfold lnK stK totL at *
  omega
theorem blk_apart {L : List Sg} {F : List Int} (h : bkB L F = true) {i j : Nat} (hij : i < j) (hj : j < F.length) : stK L F i + lnK L F i ≤ stK L F j := by
  obtain ⟨hl, hk⟩ := bkB_lay h
  obtain ⟨_, _, ho, _⟩ := (layB_iff L).1 hl
  obtain ⟨_, _, h3, _⟩ := (bkC_iff L F).1 hk
  rw [stK_end, endK_next i (by omega)]
  have g := ris_mono h3 (i + 1) j (by omega) hj
  obtain ⟨g1, g2, g3⟩ := blk_bd hk j hj
  exact upL_mono L _ _ g (by omega) ho
/-- the block of a position -/
theorem blk_some {L : List Sg} {F : List Int} (h : bkB L F = true) {p : Int} (hp : 0 ≤ p ∧ p < totL L) : ∃ k b, IsAt L p k ∧ IsB L F k b ∧ stK L F b ≤ p ∧ p < stK L F b + lnK L F b := by
  obtain ⟨hl, hk⟩ := bkB_lay h
  obtain ⟨k, hat⟩ := isAt_some L p hp.1 L.length (Nat.le_refl _) hp.2
  obtain ⟨b, hb⟩ := isB_some hk hat.1
  refine ⟨k, b, hat, hb, ?_⟩
  have e := (hasP_of hl hk hat hb.1).2 hb
  unfold hasP sec at e
  simpa using e
theorem oc_spec {L : List Sg} {F : List Int} (h : bkB L F = true) {p n : Int} (hp : 0 ≤ p ∧ p < totL L) (hn : 1 ≤ n ∧ n ≤ totL L) {rb b : Nat} (hrb : rb < F.length) (hr : stK L F rb ≤ rearK (totL L) p n ∧ rearK (totL L) p n < stK L F rb + lnK L F rb) (hb : b < F.length) :
    ocB L F p n b = (decide ((b : Int) = (rb : Int)) || decide ((p - stK L F b) % totL L < n)) := by
  obtain ⟨x1, x2, x3⟩ := blk_at h b hb
  have hc := rear_cases hp hn
  have ha := ahead_cases (T := totL L) (a := stK L F b) (b := p) ⟨x1, by omega⟩ hp
  unfold ahead at ha
  unfold ocB inB
  by_cases e : b = rb
  · subst e
    have : max (rearK (totL L) p n) (stK L F b) ≤ min (min (rearK (totL L) p n + n - 1) (totL L - 1)) (stK L F b + lnK L F b - 1) := by omega
    simp only [this, decide_true, Bool.true_or]
  · have hap : stK L F b + lnK L F b ≤ stK L F rb ∨ stK L F rb + lnK L F rb ≤ stK L F b := by
      by_cases c : b < rb
      · exact .inl (blk_apart h c hrb)
      · exact .inr (blk_apart h (by omega) hb)
    have e2 : ¬ ((b : Int) = (rb : Int)) := by omega
    rw [Bool.eq_iff_iff]
    simp only [Bool.or_eq_true, decide_eq_true_eq, e2, false_or]
    rcases hc with ⟨c, e⟩ | ⟨c, e⟩ <;> rcases ha with ⟨c2, e3⟩ | ⟨c2, e3⟩ <;> rw [e3] <;> rw [e] at hr ⊢ <;> omega
theorem oc_front {L : List Sg} {F : List Int} (h : bkB L F = true) {p n : Int} (hp : 0 ≤ p ∧ p < totL L) (hn : 1 ≤ n ∧ n ≤ totL L) {b : Nat} (hb : stK L F b ≤ p ∧ p < stK L F b + lnK L F b) : ocB L F p n b = true := by
  have hc := rear_cases hp hn
  unfold ocB inB
  rw [Bool.or_eq_true, decide_eq_true_eq, decide_eq_true_eq]
  rcases hc with ⟨c, e⟩ | ⟨c, e⟩ <;> rw [e] <;> omega
/-- the blocks that a train occupies, of the first k -/
def ocK (L : List Sg) (F : List Int) (p n : Int) (k : Nat) : List Int := ((List.range k).filter (ocB L F p n)).map fun (i : Nat) => (i : Int)
theorem ocK_0 (L : List Sg) (F : List Int) (p n : Int) : ocK L F p n 0 = [] := by simp [ocK]
theorem ocK_succ (L : List Sg) (F : List Int) (p n : Int) (k : Nat) : ocK L F p n (k + 1) = if ocB L F p n k = true then ocK L F p n k ++ [(k : Int)] else ocK L F p n k := by
  unfold ocK; rw [List.range_succ, List.filter_append, List.map_append]
  by_cases h1 : ocB L F p n k = true <;> simp [h1]
theorem ocK_len (L : List Sg) (F : List Int) (p n : Int) (k : Nat) : (ocK L F p n k).length ≤ k := by
  unfold ocK; rw [List.length_map]
  exact Nat.le_trans (List.length_filter_le _ _) (by simp)
theorem ocK_mem (L : List Sg) (F : List Int) (p n : Int) (k : Nat) (x : Int) : x ∈ ocK L F p n k ↔ ∃ b : Nat, x = (b : Int) ∧ b < k ∧ ocB L F p n b = true := by
  unfold ocK
  rw [List.mem_map]
  constructor
  · rintro ⟨b, hb, rfl⟩
    rw [List.mem_filter, List.mem_range] at hb
    exact ⟨b, rfl, hb⟩
  · rintro ⟨b, rfl, hb⟩
    exact ⟨b, by rw [List.mem_filter, List.mem_range]; exact hb, rfl⟩
theorem ocK_rng (L : List Sg) (F : List Int) (p n : Int) (k : Nat) : ∀ x ∈ ocK L F p n k, 0 ≤ x ∧ x < k := by
  intro x hx
  obtain ⟨b, rfl, hb, _⟩ := (ocK_mem L F p n k x).1 hx
  omega
def ocE (L : List Sg) (F : List Int) (p n : Int) : Int := if bkB L F = true then trE L p n else 1
def ocV (L : List Sg) (F : List Int) (p n : Int) : List Int := if ocE L F p n = 0 then ocK L F p n F.length else []
theorem ocE_ok {L : List Sg} {F : List Int} {p n : Int} (h : ocE L F p n = 0) : bkB L F = true ∧ trE L p n = 0 := by
  unfold ocE at h; split at h
  · exact ⟨by assumption, h⟩
  · omega
/-- the loads behind the first i trains -/
def ldN (L : List Sg) (F : List Int) (P : List Int) (n : Int) (i b : Nat) : Int := ((((List.range i).filter fun k => ocB L F (gx P k) n b).length : Nat) : Int)
def ldK (L : List Sg) (F : List Int) (P : List Int) (n : Int) (i : Nat) : List Int := (List.range F.length).map (ldN L F P n i)
def ldE (L : List Sg) (F : List Int) (P : List Int) (n : Int) : Int := if bkB L F = true then (if P.length ≤ 4 then (if trsB (totL L) n P = true then 0 else 2) else 3) else 1
def ldV (L : List Sg) (F : List Int) (P : List Int) (n : Int) : List Int := if ldE L F P n = 0 then ldK L F P n P.length else []
theorem ldE_ok {L : List Sg} {F P : List Int} {n : Int} (h : ldE L F P n = 0) : bkB L F = true ∧ P.length ≤ 4 ∧ trsB (totL L) n P = true := by
  unfold ldE at h; split at h
  · split at h
    · split at h
      · exact ⟨by assumption, by assumption, by assumption⟩
      · omega
    · omega
  · omega
theorem ldN_0 (L : List Sg) (F P : List Int) (n : Int) (b : Nat) : ldN L F P n 0 b = 0 := by simp [ldN]
theorem ldN_succ (L : List Sg) (F P : List Int) (n : Int) (i b : Nat) : ldN L F P n (i + 1) b = ldN L F P n i b + (if ocB L F (gx P i) n b = true then 1 else 0) := by
  unfold ldN; rw [List.range_succ, List.filter_append, List.length_append]
  by_cases h : ocB L F (gx P i) n b = true <;> simp [h]
theorem ldN_bd (L : List Sg) (F P : List Int) (n : Int) (i b : Nat) : 0 ≤ ldN L F P n i b ∧ ldN L F P n i b ≤ i := by
  unfold ldN
  have := List.length_filter_le (fun k => ocB L F (gx P k) n b) (List.range i)
  rw [List.length_range] at this
  omega
theorem ldK_len (L : List Sg) (F P : List Int) (n : Int) (i : Nat) : (ldK L F P n i).length = F.length := by simp [ldK]
theorem ldK_gx (L : List Sg) (F P : List Int) (n : Int) (i b : Nat) (hb : b < F.length) : gx (ldK L F P n i) b = ldN L F P n i b := by
  rw [gx_of _ b (by rw [ldK_len]; exact hb)]; simp [ldK]
end Go.Proofs.Ytehinlecppbjeaa
