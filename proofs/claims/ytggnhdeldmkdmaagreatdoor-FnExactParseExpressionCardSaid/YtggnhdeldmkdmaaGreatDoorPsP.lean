/- The parser, in plain words: an expression's tokens and its terms. No program in sight. -/
import Derived.Test.YtggnhdeldmkdmaaGreatDoorPsM
namespace Go.Proofs.YtggnhdeldmkdmaaGreatDoor
open Go
set_option linter.unusedSimpArgs false
set_option linter.unusedVariables false
abbrev TT := List (List UInt8)
/-- what a part of the parser makes of the tokens: out of steps, a wrong token, or what it has read and the tokens behind it -/
inductive PR (α : Type) where
  | out : PR α
  | bad : PR α
  | ok : α → TT → PR α
def PR.bind {α β : Type} (x : PR α) (f : α → TT → PR β) : PR β :=
  match x with
  | .out => .out
  | .bad => .bad
  | .ok a r => f a r
/-- a token with a text -/
def nd (s : List UInt8) (T : TT) : PR Unit := match T with
  | [] => .bad
  | x :: r => if x = s then .ok () r else .bad
/-- a number -/
def nbr (T : TT) : PR Int := match T with
  | [] => .bad
  | x :: r => if numB x = true then .ok (vl 0 x : Nat) r else .bad
/-- a name -/
def nme (T : TT) : PR (List UInt8) := match T with
  | [] => .bad
  | x :: r => if nmB x = true then .ok x r else .bad
def kNot : List UInt8 := [110, 111, 116]
def kTrue : List UInt8 := [116, 114, 117, 101]
def kFalse : List UInt8 := [102, 97, 108, 115, 101]
def kAnd : List UInt8 := [97, 110, 100]
def kOr : List UInt8 := [111, 114]
/-- the kind of a block's keyword, or 0 -/
def bkK (x : List UInt8) : Nat := if bks.contains x = true then bks.idxOf x + 7 else 0
/-- the parts of the parser: an expression ('true') or a part ('false'), the rest of one, a factor, what stands behind a block's keyword -/
inductive Gl where
  | chain : Bool → Gl
  | loop : Bool → List Trm → Gl
  | factor : Gl
  | block : Nat → Gl
def opd (o : Bool) : Gl := if o = true then .chain false else .factor
def opK (o : Bool) : List UInt8 := if o = true then kOr else kAnd
def opT (o : Bool) : Trm := if o = true then (6, [], 0) else (5, [], 0)
def prs : Nat → Gl → TT → PR (List Trm)
  | 0, _, _ => .out
  | f + 1, .chain o, T => (prs f (opd o) T).bind fun a r => prs f (.loop o a) r
  | f + 1, .loop o a, T => if T.headD [] = opK o then (prs f (opd o) T.tail).bind fun b r => prs f (.loop o (a ++ b ++ [opT o])) r else .ok a T
  | f + 1, .factor, T => match T with
    | [] => .bad
    | x :: r =>
      if x = [40] then (prs f (.chain true) r).bind fun a r1 => (nd [41] r1).bind fun _ r2 => .ok a r2
      else if x = kTrue then .ok [(2, [], 0)] r
      else if x = kFalse then .ok [(3, [], 0)] r
      else if x = kNot then (prs f .factor r).bind fun a r1 => .ok (a ++ [(4, [], 0)]) r1
      else if bkK x ≠ 0 then prs f (.block (bkK x)) r
      else if nmB x = true then .ok [(1, x, 0)] r
      else .bad
  | f + 1, .block k, T => (nd [40] T).bind fun _ r0 => (prs f (.chain true) r0).bind fun a r1 =>
      (if tkK k = 2 then (nd [44] r1).bind fun _ r2 => (prs f (.chain true) r2).bind fun b r3 => PR.ok (a ++ b) r3 else .ok a r1).bind fun c r4 =>
      (if cntK k = true then (nd [44] r4).bind fun _ r5 => nbr r5 else .ok 0 r4).bind fun m r6 =>
      (nd [41] r6).bind fun _ r7 => .ok (c ++ [((k : Int), [], m)]) r7
theorem PR.bind_ok {α β : Type} {x : PR α} {f : α → TT → PR β} {b : β} {r : TT} (h : x.bind f = .ok b r) : ∃ a r', x = .ok a r' ∧ f a r' = .ok b r := by
  cases x with
  | out => cases h
  | bad => cases h
  | ok a r' => exact ⟨a, r', rfl, h⟩
theorem nd_ok {s : List UInt8} {T r : TT} {u : Unit} (h : nd s T = .ok u r) : T = s :: r := by
  unfold nd at h
  split at h
  · cases h
  · split at h
    · rename_i hx; cases h; rw [hx]
    · cases h
theorem nbr_ok {T r : TT} {m : Int} (h : nbr T = .ok m r) : ∃ x, T = x :: r ∧ numB x = true ∧ m = (vl 0 x : Nat) := by
  unfold nbr at h
  split at h
  · cases h
  · split at h
    · rename_i hx; cases h; exact ⟨_, rfl, hx, rfl⟩
    · cases h
theorem num_le {x : List UInt8} (h : numB x = true) : vl 0 x ≤ 9999 := by
  obtain ⟨m, hm, rfl⟩ := (numB_iff x).1 h
  have := (dec_read (m + 1) m (by omega)).1
  omega
/-- what the parser reads of a part: not more terms than tokens; each term is one; computing them leaves one value more -/
def rh : Nat → List Trm → Option Nat
  | h, [] => some h
  | h, t :: r => if (trmB t.1 t.2.1 t.2.2 && decide (tkK t.1 ≤ h)) = true then rh (h + 1 - tkK t.1) r else none
theorem rh_app : ∀ (a b : List Trm) (h g : Nat), rh h a = some g → rh h (a ++ b) = rh g b
  | [], b, h, g, e => by cases e; rfl
  | t :: a, b, h, g, e => by
    simp only [rh, List.cons_append] at e ⊢
    split at e
    · rename_i hc
      rw [if_pos hc]; exact rh_app a b _ g e
    · cases e
/-- one value more, whatever is there before; names are short, numbers small -/
def One1 (a : List Trm) : Prop := (∀ h, rh h a = some (h + 1)) ∧ ∀ t ∈ a, 0 ≤ t.1 ∧ t.1 ≤ 12 ∧ t.2.1.length ≤ 12 ∧ 0 ≤ t.2.2 ∧ t.2.2 ≤ 9999
theorem one_two {a b : List Trm} {k : Int} {m : Int} (ha : One1 a) (hb : One1 b) (hk : tkK k = 2) (ht : trmB k [] m = true) : One1 (a ++ b ++ [(k, [], m)]) := by
  refine ⟨fun h => ?_, fun t hm => ?_⟩
  · rw [rh_app (a ++ b) _ h (h + 2) (by rw [rh_app a b h _ (ha.1 h), hb.1])]
    simp only [rh]
    rw [hk, ht, if_pos (by simp)]; rfl
  · simp only [List.append_assoc, List.mem_append, List.mem_singleton] at hm
    rcases hm with hm | hm | rfl
    · exact ha.2 t hm
    · exact hb.2 t hm
    · simp [trmB, kndB] at ht; exact ⟨by show 0 ≤ k; omega, by show k ≤ 12; omega, by simp, by show 0 ≤ m; omega, by show m ≤ 9999; omega⟩
theorem one_one {a : List Trm} {k : Int} {m : Int} (ha : One1 a) (hk : tkK k = 1) (ht : trmB k [] m = true) : One1 (a ++ [(k, [], m)]) := by
  refine ⟨fun h => ?_, fun t hm => ?_⟩
  · rw [rh_app a _ h _ (ha.1 h)]
    simp only [rh]
    rw [hk, ht, if_pos (by simp)]; rfl
  · simp only [List.mem_append, List.mem_singleton] at hm
    rcases hm with hm | rfl
    · exact ha.2 t hm
    · simp [trmB, kndB] at ht; exact ⟨by show 0 ≤ k; omega, by show k ≤ 12; omega, by simp, by show 0 ≤ m; omega, by show m ≤ 9999; omega⟩
theorem one_lit {k : Int} {s : List UInt8} (hk : tkK k = 0) (ht : trmB k s 0 = true) (hs : s.length ≤ 12) : One1 [(k, s, 0)] := by
  refine ⟨fun h => ?_, fun t hm => ?_⟩
  · simp only [rh]
    rw [hk, ht, if_pos (by simp)]; rfl
  · simp at hm; subst hm
    simp [trmB, kndB] at ht; exact ⟨by show 0 ≤ k; omega, by show k ≤ 12; omega, hs, by simp, by simp⟩
theorem nm_len {x : List UInt8} (h : nmB x = true) : x.length ≤ 12 := by
  simp [nmB, wrdB] at h; exact h.1.1.1.2
theorem bkK_mem {x : List UInt8} (h : bkK x ≠ 0) : 7 ≤ bkK x ∧ bkK x ≤ 12 := by
  unfold bkK at h ⊢
  split at h
  · rename_i hc
    have : bks.idxOf x < bks.length := List.idxOf_lt_length_iff.2 (by simpa using hc)
    have : bks.length = 6 := rfl
    rw [if_pos hc]; omega
  · exact absurd rfl h
def accL : Gl → Nat
  | .loop _ a => a.length
  | _ => 0
/-- what a goal needs: the accumulator is one, the block's kind is one -/
def glOk : Gl → Prop
  | .loop _ a => One1 a
  | .block k => 7 ≤ k ∧ k ≤ 12
  | _ => True
theorem glOk_opd (o : Bool) : glOk (opd o) := by cases o <;> trivial
theorem accL_opd (o : Bool) : accL (opd o) = 0 := by cases o <;> rfl
theorem tk_cases (k : Nat) (h : 7 ≤ k ∧ k ≤ 12) : tkK (k : Int) = 1 ∨ tkK (k : Int) = 2 := by
  have : ∀ j : Fin 13, 7 ≤ j.val → tkK (j.val : Int) = 1 ∨ tkK (j.val : Int) = 2 := by decide +kernel
  exact this ⟨k, by omega⟩ h.1
theorem trm_blk (k : Nat) (h : 7 ≤ k ∧ k ≤ 12) (m : Int) (hm : 0 ≤ m ∧ m ≤ 9999) (hc : cntK (k : Int) = true ∨ m = 0) : trmB (k : Int) [] m = true := by
  unfold trmB kndB
  rw [decide_eq_true (show (1 : Int) ≤ k by omega), decide_eq_true (show (k : Int) ≤ 12 by omega), decide_eq_true hm.1, decide_eq_true hm.2, if_neg (by omega)]
  rcases hc with h1 | h1
  · rw [h1]; rfl
  · rw [decide_eq_true h1]; simp
theorem prs_ok : ∀ (f : Nat) (g : Gl) (T : TT) (a : List Trm) (r : TT), glOk g → prs f g T = .ok a r → a.length + r.length ≤ T.length + accL g ∧ One1 a ∧ ∃ p, T = p ++ r
  | 0, g, T, a, r, hg, h => by simp [prs] at h
  | f + 1, .chain o, T, a, r, hg, h => by
    simp only [prs] at h
    obtain ⟨a1, r1, h1, h2⟩ := PR.bind_ok h
    obtain ⟨l1, o1, p1, e1⟩ := prs_ok f _ T a1 r1 (glOk_opd o) h1
    obtain ⟨l2, o2, p2, e2⟩ := prs_ok f (.loop o a1) r1 a r o1 h2
    rw [accL_opd] at l1
    simp only [accL] at l2 ⊢
    exact ⟨by omega, o2, p1 ++ p2, by rw [e1, e2]; simp⟩
  | f + 1, .loop o a0, T, a, r, hg, h => by
    simp only [prs] at h
    split at h
    · rename_i hc
      cases T with
      | nil => cases o <;> simp [opK, kOr, kAnd] at hc
      | cons x T =>
        obtain ⟨b, r1, h1, h2⟩ := PR.bind_ok h
        obtain ⟨l1, o1, p1, e1⟩ := prs_ok f _ T b r1 (glOk_opd o) h1
        have hg : One1 a0 := hg
        have o3 : One1 (a0 ++ b ++ [opT o]) := by
          cases o
          · exact one_two hg o1 (by decide) (by decide)
          · exact one_two hg o1 (by decide) (by decide)
        obtain ⟨l2, o2, p2, e2⟩ := prs_ok f (.loop o (a0 ++ b ++ [opT o])) r1 a r o3 h2
        rw [accL_opd] at l1
        simp only [accL, List.length_append, List.length_cons, List.length_nil] at l2 ⊢
        exact ⟨by omega, o2, x :: p1 ++ p2, by rw [e1, e2]; simp⟩
    · cases h
      simp only [accL]
      exact ⟨by omega, hg, [], rfl⟩
  | f + 1, .factor, T, a, r, hg, h => by
    cases T with
    | nil => simp [prs] at h
    | cons x T =>
      simp only [prs] at h
      simp only [accL, List.length_cons]
      split at h
      · obtain ⟨b, r1, h1, h2⟩ := PR.bind_ok h
        obtain ⟨u, r2, h3, h4⟩ := PR.bind_ok h2
        cases h4
        obtain ⟨l1, o1, p1, e1⟩ := prs_ok f (.chain true) T a r1 trivial h1
        have := nd_ok h3
        rw [this] at l1 e1
        simp only [accL, List.length_cons] at l1
        exact ⟨by omega, o1, x :: p1 ++ [[41]], by rw [e1]; simp⟩
      · split at h
        · cases h; exact ⟨by simp; omega, one_lit (by decide) (by decide) (by simp), [x], rfl⟩
        · split at h
          · cases h; exact ⟨by simp; omega, one_lit (by decide) (by decide) (by simp), [x], rfl⟩
          · split at h
            · obtain ⟨b, r1, h1, h2⟩ := PR.bind_ok h
              cases h2
              obtain ⟨l1, o1, p1, e1⟩ := prs_ok f .factor T b _ trivial h1
              simp only [accL] at l1
              exact ⟨by simp; omega, one_one o1 (by decide) (by decide), x :: p1, by rw [e1]; simp⟩
            · split at h
              · rename_i hb
                obtain ⟨l1, o1, p1, e1⟩ := prs_ok f (.block (bkK x)) T a r (bkK_mem hb) h
                simp only [accL] at l1
                exact ⟨by omega, o1, x :: p1, by rw [e1]; simp⟩
              · split at h
                · rename_i hn
                  cases h
                  exact ⟨by simp; omega, one_lit (by decide) (by unfold trmB; rw [hn]; rfl) (nm_len hn), [x], rfl⟩
                · cases h
  | f + 1, .block k, T, a, r, hg, h => by
    have hg : 7 ≤ k ∧ k ≤ 12 := hg
    simp only [prs] at h
    obtain ⟨u, r0, h0, h⟩ := PR.bind_ok h
    have e0 := nd_ok h0
    obtain ⟨a1, r1, h1, h⟩ := PR.bind_ok h
    obtain ⟨l1, o1, p1, e1⟩ := prs_ok f (.chain true) r0 a1 r1 trivial h1
    obtain ⟨c, r4, h4, h⟩ := PR.bind_ok h
    obtain ⟨m, r6, h6, h⟩ := PR.bind_ok h
    obtain ⟨_, r7, h7, h⟩ := PR.bind_ok h
    cases h
    have e7 := nd_ok h7
    have hm : (0 ≤ m ∧ m ≤ 9999) ∧ (cntK (k : Int) = true ∨ m = 0) ∧ r6.length ≤ r4.length ∧ ∃ q, r4 = q ++ r6 := by
      split at h6
      · rename_i hc
        obtain ⟨_, r5, h5, h6⟩ := PR.bind_ok h6
        have e5 := nd_ok h5
        obtain ⟨x, e6, hx, rfl⟩ := nbr_ok h6
        have := num_le hx
        exact ⟨by omega, .inl hc, by rw [e5, e6]; simp; omega, [[44], x], by rw [e5, e6]; rfl⟩
      · cases h6; exact ⟨by omega, .inr rfl, Nat.le_refl _, [], rfl⟩
    obtain ⟨hm1, hm2, hm3, q, hm4⟩ := hm
    have ht := trm_blk k hg m hm1 hm2
    simp only [accL] at l1 ⊢
    have hT : T.length = r0.length + 1 := by rw [e0]; simp
    have h67 : r6.length = r.length + 1 := by rw [e7]; simp
    split at h4
    · rename_i hk
      obtain ⟨_, r2, h2, h4⟩ := PR.bind_ok h4
      have e2 := nd_ok h2
      obtain ⟨b, r3, h3, h4⟩ := PR.bind_ok h4
      obtain ⟨l3, o3, p3, e3⟩ := prs_ok f (.chain true) r2 b r3 trivial h3
      cases h4
      simp only [accL] at l3
      have h12 : r1.length = r2.length + 1 := by rw [e2]; simp
      refine ⟨by simp only [List.length_append, List.length_cons, List.length_nil]; omega, one_two o1 o3 hk ht, [40] :: p1 ++ [44] :: p3 ++ q ++ [[41]], ?_⟩
      rw [e0, e1, e2, e3, hm4, e7]; simp
    · rename_i hk
      cases h4
      have hk1 : tkK (k : Int) = 1 := (tk_cases k hg).resolve_right hk
      refine ⟨by simp only [List.length_append, List.length_cons, List.length_nil]; omega, one_one o1 hk1 ht, [40] :: p1 ++ q ++ [[41]], ?_⟩
      rw [e0, e1, hm4, e7]; simp
/-- how many steps a part takes for each token, and at least -/
def glC : Gl → Nat
  | .chain true => 3
  | .chain false => 2
  | _ => 1
theorem PR.bind_in {α β : Type} {x : PR α} {f : α → TT → PR β} (h : x ≠ .out) (hf : ∀ a r, x = .ok a r → f a r ≠ .out) : x.bind f ≠ .out := by
  cases x with
  | out => exact absurd rfl h
  | bad => intro e; cases e
  | ok a r => exact hf a r rfl
theorem nd_in (s : List UInt8) (T : TT) : nd s T ≠ .out := by
  unfold nd
  cases T with
  | nil => intro e; cases e
  | cons x r =>
    simp only
    split <;> (intro e; cases e)
theorem nbr_in (T : TT) : nbr T ≠ .out := by
  unfold nbr
  cases T with
  | nil => intro e; cases e
  | cons x r =>
    simp only
    split <;> (intro e; cases e)
theorem nme_in (T : TT) : nme T ≠ .out := by
  unfold nme
  cases T with
  | nil => intro e; cases e
  | cons x r =>
    simp only
    split <;> (intro e; cases e)
theorem ok_in {α : Type} (a : α) (r : TT) : PR.ok a r ≠ .out := by intro e; cases e
theorem prs_in : ∀ (f : Nat) (g : Gl) (T : TT), glOk g → 4 * T.length + glC g ≤ f → prs f g T ≠ .out
  | 0, g, T, hg, h => by cases g with | chain o => cases o <;> simp [glC] at h | _ => simp [glC] at h
  | f + 1, .chain o, T, hg, h => by
    simp only [prs]
    refine PR.bind_in (prs_in f (opd o) T (glOk_opd o) (by cases o <;> simp [opd, glC] at h ⊢ <;> omega)) fun a r hp => ?_
    obtain ⟨l, o1, _⟩ := prs_ok f _ T a r (glOk_opd o) hp
    rw [accL_opd] at l
    exact prs_in f (.loop o a) r o1 (by cases o <;> simp [glC] at h ⊢ <;> omega)
  | f + 1, .loop o a0, T, hg, h => by
    simp only [prs]
    split
    · rename_i hc
      cases T with
      | nil => cases o <;> simp [opK, kOr, kAnd] at hc
      | cons x T =>
        simp only [List.length_cons, glC] at h
        simp only [List.tail_cons]
        refine PR.bind_in (prs_in f (opd o) T (glOk_opd o) (by cases o <;> simp [opd, glC] at h ⊢ <;> omega)) fun b r hp => ?_
        obtain ⟨l, o1, _⟩ := prs_ok f _ T b r (glOk_opd o) hp
        rw [accL_opd] at l
        have hg : One1 a0 := hg
        have o3 : One1 (a0 ++ b ++ [opT o]) := by
          cases o
          · exact one_two hg o1 (by decide) (by decide)
          · exact one_two hg o1 (by decide) (by decide)
        exact prs_in f (.loop o _) r o3 (by simp only [glC]; omega)
    · exact ok_in _ _
  | f + 1, .factor, T, hg, h => by
    cases T with
    | nil => simp [prs]
    | cons x T =>
      simp only [prs]
      simp only [List.length_cons, glC] at h
      split
      · exact PR.bind_in (prs_in f (.chain true) T trivial (by simp only [glC]; omega)) fun a r hp => PR.bind_in (nd_in _ _) fun _ _ _ => ok_in _ _
      · split
        · exact ok_in _ _
        · split
          · exact ok_in _ _
          · split
            · exact PR.bind_in (prs_in f .factor T trivial (by simp only [glC]; omega)) fun a r hp => ok_in _ _
            · split
              · rename_i hb
                exact prs_in f (.block _) T (bkK_mem hb) (by simp only [glC]; omega)
              · split
                · exact ok_in _ _
                · intro e; cases e
  | f + 1, .block k, T, hg, h => by
    simp only [prs]
    simp only [glC] at h
    refine PR.bind_in (nd_in _ _) fun _ r0 h0 => ?_
    have e0 := nd_ok h0
    subst e0
    simp only [List.length_cons] at h
    refine PR.bind_in (prs_in f (.chain true) r0 trivial (by simp only [glC]; omega)) fun a r1 h1 => ?_
    obtain ⟨l, o1, _⟩ := prs_ok f (.chain true) r0 a r1 trivial h1
    simp only [accL] at l
    refine PR.bind_in ?_ fun c r4 h4 => PR.bind_in ?_ fun m r6 h6 => PR.bind_in (nd_in _ _) fun _ _ _ => ok_in _ _
    · split
      · refine PR.bind_in (nd_in _ _) fun _ r2 h2 => PR.bind_in ?_ fun _ _ _ => ok_in _ _
        have e2 := nd_ok h2
        have hl : r1.length = r2.length + 1 := by rw [e2]; simp
        exact prs_in f (.chain true) r2 trivial (by simp only [glC]; omega)
      · exact ok_in _ _
    · split
      · exact PR.bind_in (nd_in _ _) fun _ _ _ => nbr_in _
      · exact ok_in _ _
/-- the whole list is an expression list exactly if it is not too long -/
theorem rh_at (M : List Trm) : ∀ (L : List Trm) (p h : Nat), p ≤ M.length → M.drop p = L → rh (hAt M p) L = some h → (∀ j, p ≤ j → j < M.length → okR M j = true) ∧ hAt M M.length = h
  | [], p, h, hp, hd, e => by
    have h1 : M.length ≤ p := by simpa using hd
    obtain rfl : p = M.length := by omega
    exact ⟨fun j h2 h3 => by omega, Option.some.inj e⟩
  | t :: r, p, h, hp, hd, e => by
    have hlt : p < M.length := by
      have := congrArg List.length hd
      simp at this; omega
    have ht : M.getD p (0, [], 0) = t := by
      have h1 : (M.drop p)[0]? = some t := by rw [hd]; rfl
      rw [List.getElem?_drop] at h1
      rw [List.getD_eq_getElem?_getD, show p = p + 0 by omega, h1]; rfl
    simp only [rh] at e
    split at e
    · rename_i hc
      have hk : okR M p = true := by
        unfold okR rkx rsx rnx
        rw [ht]; exact hc
      have hd2 : M.drop (p + 1) = r := by rw [← List.drop_drop, hd]; rfl
      have e2 : rh (hAt M (p + 1)) r = some h := by
        unfold hAt rkx
        rw [ht]; exact e
      obtain ⟨h1, h2⟩ := rh_at M r (p + 1) h hlt hd2 e2
      refine ⟨fun j h3 h4 => ?_, h2⟩
      rcases Nat.lt_or_ge p j with h5 | h5
      · exact h1 j h5 h4
      · obtain rfl : j = p := by omega
        exact hk
    · cases e
theorem exB_one (L : List Trm) (h : One1 L) : exB L = decide (L.length ≤ 40) := by
  obtain ⟨h1, h2⟩ := rh_at L L 0 1 (Nat.zero_le _) rfl (h.1 0)
  unfold exB
  rw [alR_all L (fun j hj => h1 j (Nat.zero_le _) hj), h2]; simp
end Go.Proofs.YtggnhdeldmkdmaaGreatDoor
