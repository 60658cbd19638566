/- Plain words of chapter 7: the energies with which a train may enter a block, and where it stops. No program in sight. -/
import Derived.Test.YtnmlkigpiaekjaaBrM
import Derived.Test.YtnmlkigpiaekjaaEnP
import Derived.Test.YtnmlkigpiaekjaaBkM
namespace Go.Proofs.Ytnmlkigpiaekjaa
set_option linter.unusedSimpArgs false
set_option linter.unusedVariables false
/-- the holding segment of block b, the number of segments ahead of it, and these -/
def hoK (L : List Sg) (F : List Int) (b : Nat) : Nat := endK L F b - 1
def cnK (L : List Sg) (F : List Int) (b : Nat) : Nat := hoK L F b - fstK F b
def hoS (L : List Sg) (F : List Int) (b : Nat) : Sg := sx L (hoK L F b)
def rnK (L : List Sg) (F : List Int) (b : Nat) : List Sg := runS L (fstK F b) (cnK L F b)
/-- the greatest energy with which no limit is exceeded behind the first k segments of a run -/
def hgK (R : List Sg) : Nat → Int
  | 0 => 10000000000
  | k + 1 => min (hgK R k) (10000000000 - clH R (k + 1))
theorem hgK_0 (R : List Sg) : hgK R 0 = 10000000000 := rfl
theorem hgK_succ (R : List Sg) (k : Nat) : hgK R (k + 1) = min (hgK R k) (10000000000 - clH R (k + 1)) := rfl
theorem hgK_le (R : List Sg) (k : Nat) : hgK R k ≤ 10000000000 := by
  induction k with
  | zero => simp [hgK_0]
  | succ k ih => rw [hgK_succ]; omega
theorem hgK_at (R : List Sg) (k j : Nat) (hj : j < k) : hgK R k ≤ 10000000000 - clH R (j + 1) := by
  induction k with
  | zero => omega
  | succ k ih =>
    rw [hgK_succ]
    by_cases e : j = k
    · subst e; omega
    · have := ih (by omega); omega
theorem hgK_end (R : List Sg) (k : Nat) : hgK R k ≤ 10000000000 - clH R k := by
  cases k with
  | zero => simp [hgK_0, clH_0]
  | succ k => exact hgK_at R (k + 1) k (by omega)
theorem hgK_ge (R : List Sg) (h : okB R R.length = true) (k : Nat) (hk : k ≤ R.length) : 10000000000 - 1961200000 * (k : Int) ≤ hgK R k := by
  induction k with
  | zero => simp [hgK_0]
  | succ k ih =>
    have h1 := cl_bd R h (k + 1) hk
    have h2 := ih (by omega)
    rw [hgK_succ]
    omega
theorem ndN_end (R : List Sg) (k : Nat) : -clL R k ≤ ndN R k := by
  cases k with
  | zero => simp [ndN_0, clL_0]
  | succ k => exact ndN_ge R (k + 1) k (by omega)
/-- the bounds of the energy with which a train may enter block b: 'the holding segment holds it', least, greatest -/
def slowB (L : List Sg) (F : List Int) (b : Nat) : Bool := !brk (hoS L F b).k || decide (1 ≤ wkL (hoS L F b))
def loK (L : List Sg) (F : List Int) (b : Nat) : Int := ndN (rnK L F b) (cnK L F b)
def hiK (L : List Sg) (F : List Int) (b : Nat) : Int :=
  if brk (hoS L F b).k = true then min (hgK (rnK L F b) (cnK L F b)) (wkL (hoS L F b) - clH (rnK L F b) (cnK L F b)) else hgK (rnK L F b) (cnK L F b)
def okK (L : List Sg) (F : List Int) (b : Nat) : Bool := slowB L F b && decide (loK L F b ≤ hiK L F b)
/-- by the block's number: code, bounds -/
def ebE (L : List Sg) (F : List Int) (p : Int) : Int := if fndE L F (isNo p) = 0 then (if okK L F p.toNat = true then 0 else 5) else fndE L F (isNo p)
def ebL (L : List Sg) (F : List Int) (p : Int) : Int := okV (ebE L F p) (loK L F p.toNat)
def ebH (L : List Sg) (F : List Int) (p : Int) : Int := okV (ebE L F p) (hiK L F p.toNat)
/-- may a train enter: code, answer -/
def meE (L : List Sg) (F : List Int) (p a b : Int) : Int := if enB a b = true then fndE L F (isNo p) else 1
def meB (L : List Sg) (F : List Int) (p a b : Int) : Bool := decide (meE L F p a b = 0) && (okK L F p.toNat && (decide (loK L F p.toNat ≤ a) && decide (b ≤ hiK L F p.toNat)))
/-- where it stops: code, distance -/
def sbE (L : List Sg) (F : List Int) (p a b : Int) : Int := if meE L F p a b = 0 then (if meB L F p a b = true then 0 else 5) else meE L F p a b
def sbH (L : List Sg) (F : List Int) (k : Nat) (b : Int) : Int :=
  if brk (hoS L F k).k = true then cei ((b + clH (rnK L F k) (cnK L F k)) * (hoS L F k).l) (wkL (hoS L F k)) else (hoS L F k).l
def sbV (L : List Sg) (F : List Int) (p a b : Int) : Int := okV (sbE L F p a b) (upL L (hoK L F p.toNat) - upL L (fstK F p.toNat) + sbH L F p.toNat b)
/-- what is known of a block -/
structure Bl (L : List Sg) (F : List Int) (b f h c n : Nat) (y : Sg) (R : List Sg) : Prop where
  fe : f = fstK F b
  he : h = hoK L F b
  ce : c = h - f
  cn : c = cnK L F b
  le : f ≤ h
  lt : h < n
  n24 : n ≤ 24
  end' : endK L F b = h + 1
  ye : y = hoS L F b
  yok : hldB y = true
  ysg : sgB y = true
  yk : y.k = 1 ∨ y.k = 3 ∨ y.k = 4
  Re : R = rnK L F b
  Rl : R.length = c
  Rok : okB R R.length = true
  Rat : ∀ j, j < c → sx R j = sx L (f + j)
  ok : okB L L.length = true
theorem bl_of {L : List Sg} {F : List Int} {b n : Nat} (hv : layB L = true) (hk : bkC L F = true) (hb : b < F.length) (hn : L.length = n) : ∃ f h c y R, Bl L F b f h c n y R := by
  obtain ⟨g1, g2, g3⟩ := blk_bd hk b hb
  obtain ⟨v1, v2, v3, v4, v5⟩ := (layB_iff L).1 hv
  obtain ⟨k1, k2, k3, k4, k5⟩ := (bkC_iff L F).1 hk
  have hho : hoK L F b + 1 = endK L F b := by unfold hoK; omega
  have hlt : hoK L F b < L.length := by omega
  have hsg : sgB (hoS L F b) = true := okB_at L L.length _ (Nat.le_refl _) hlt v3
  have hhl : hldB (hoS L F b) = true := by
    by_cases hl : b + 1 < F.length
    · have := okH_at L F F.length (b + 1) k5 hl (by omega)
      unfold hoS hoK
      rw [endK_next b hl]
      exact this
    · have e : endK L F b = L.length := endK_last b (by omega)
      unfold hldB
      rw [hsg]
      unfold hoS hoK
      rw [e, v5]
      simp
  have hkk : (hoS L F b).k = 1 ∨ (hoS L F b).k = 3 ∨ (hoS L F b).k = 4 := by
    unfold hldB at hhl
    rw [hsg] at hhl
    simpa [or_assoc] using hhl
  refine ⟨fstK F b, hoK L F b, cnK L F b, hoS L F b, rnK L F b, rfl, rfl, rfl, rfl, by omega, by omega, by omega, by omega, rfl, hhl, hsg, hkk, rfl, ?_, ?_, ?_, v3⟩
  · unfold rnK; rw [runS_len]
  · unfold rnK; exact runS_okB L _ _ v3 (by omega)
  · intro j hj
    unfold rnK
    rw [runS_at _ _ _ _ hj]
    have : fstK F b + j < L.length := by unfold cnK at hj; omega
    rw [Nat.mod_eq_of_lt this]
end Go.Proofs.Ytnmlkigpiaekjaa
