/- Sets of names: maps from names to true, as they read. -/
import Derived.Test.YtokipobjpinhmaaDoorPuM
import Derived.Maps.OwnSet
import Derived.Maps.OwnOps
import Derived.Maps.OwnIn
namespace Go.Proofs.YtokipobjpinhmaaDoor
open Go Go.Maps
set_option linter.unusedVariables false
set_option linter.unusedSimpArgs false
def kyL (S : List (List UInt8)) : List Lit := S.map Lit.string
/-- what a set of names reads as -/
def nsD {H : Type} (S : List (List UInt8)) : DataW H := setOf (.lit (.bool true)) (kyL S)
theorem kyL_key (S : List (List UInt8)) : ∀ y ∈ kyL S, WideAt.IsKeyLit y := by
  intro y hy
  obtain ⟨x, _, rfl⟩ := List.mem_map.1 hy
  trivial
theorem nsD_snoc {H : Type} (S : List (List UInt8)) (x : List UInt8) : nsD (H := H) (S ++ [x]) = (nsD S).put (.string x) (.lit (.bool true)) := by
  unfold nsD kyL
  rw [List.map_append, List.map_singleton, setOf_snoc]
theorem nsD_fold {H : Type} (x : List UInt8) (z : DataW H) : ∀ (S : List (List UInt8)) (m : DataW H), IsMap m → ((kyL S).foldl (fun m x => m.put x (.lit (.bool true))) m).atKey (.string x) z = if x ∈ S then .lit (.bool true) else m.atKey (.string x) z
  | [], m, _ => by simp [kyL]
  | y :: r, m, hm => by
    show ((kyL r).foldl _ (m.put (.string y) (.lit (.bool true)))).atKey _ _ = _
    rw [nsD_fold x z r _ (hm.put _ _)]
    by_cases h : x ∈ r
    · rw [if_pos h, if_pos (List.mem_cons_of_mem _ h)]
    · rw [if_neg h]
      by_cases e : x = y
      · subst e
        rw [atKey_put_same hm (by trivial), if_pos (by simp)]
      · rw [atKey_put_other (by intro h2; cases h2; exact e rfl), if_neg (by simp [e, h])]
theorem nsD_at {H : Type} (S : List (List UInt8)) (x : List UInt8) : (nsD (H := H) S).atKey (.string x) (.lit (.bool false)) = .lit (.bool (decide (x ∈ S))) := by
  unfold nsD setOf
  rw [nsD_fold x _ S _ isMap_empty]
  by_cases h : x ∈ S
  · rw [if_pos h, decide_eq_true h]
  · rw [if_neg h, decide_eq_false h]; rfl
theorem any_key (acc : List (List UInt8)) (y : List UInt8) : ((kyL acc).any fun z => z.sameKey (.string y)) = decide (y ∈ acc) := by
  induction acc with
  | nil => simp [kyL]
  | cons a r ih =>
    have e : kyL (a :: r) = .string a :: kyL r := rfl
    rw [e, List.any_cons, ih]
    by_cases h : a = y
    · subst h; simp [Lit.sameKey]
    · have h2 : ¬ y = a := fun e => h e.symm
      simp [Lit.sameKey, h, h2]
theorem addKey_one (acc : List (List UInt8)) (y : List UInt8) : addKey (kyL acc) (.string y) = if y ∈ acc then kyL acc else kyL (acc ++ [y]) := by
  unfold addKey
  rw [any_key]
  by_cases hm : y ∈ acc
  · rw [decide_eq_true hm, if_pos rfl, if_pos hm]
  · rw [decide_eq_false hm, if_neg (by simp), if_neg hm]; simp [kyL]
theorem addKey_len : ∀ (S acc : List (List UInt8)), acc.Nodup → ((kyL S).foldl addKey (kyL acc)).length ≤ acc.length + S.length ∧ (((kyL S).foldl addKey (kyL acc)).length = acc.length + S.length ↔ (acc ++ S).Nodup)
  | [], acc, h => by simp [kyL, h]
  | y :: r, acc, h => by
    have e : (kyL (y :: r)).foldl addKey (kyL acc) = (kyL r).foldl addKey (addKey (kyL acc) (.string y)) := rfl
    rw [e, addKey_one]
    by_cases hm : y ∈ acc
    · rw [if_pos hm]
      obtain ⟨h1, _⟩ := addKey_len r acc h
      refine ⟨by rw [List.length_cons]; omega, ⟨fun h2 => by rw [List.length_cons] at h2; omega, fun h2 => ?_⟩⟩
      rw [List.nodup_append] at h2
      exact absurd rfl (h2.2.2 y hm y (by simp))
    · rw [if_neg hm]
      have h3 : (acc ++ [y]).Nodup := by
        rw [List.nodup_append]
        exact ⟨h, by simp, fun a ha b hb => by simp at hb; intro e; subst e; subst hb; exact hm ha⟩
      obtain ⟨h1, h2⟩ := addKey_len r (acc ++ [y]) h3
      have e3 : acc ++ y :: r = acc ++ [y] ++ r := by simp
      have e4 : (acc ++ [y]).length = acc.length + 1 := by simp
      rw [e3, ← h2, e4, List.length_cons]
      rw [e4] at h1
      refine ⟨by omega, by omega⟩
theorem nsD_size {H : Type} (S : List (List UInt8)) : size (nsD (H := H) S) ≤ S.length ∧ decide (size (nsD (H := H) S) = S.length) = decide S.Nodup := by
  have h := addKey_len S [] (by simp)
  unfold nsD
  rw [size_setOf _ _ (kyL_key S)]
  simp at h
  have e : kyL [] = [] := rfl
  rw [e] at h
  exact ⟨h.1, decide_eq_decide.2 h.2⟩
theorem plainElem_bool_inv {H : Type} {P : Program} {e : TypeId} (he : P.underlying e = some .bool) {v : Value} {z : DataW H × List MemPlace} (h : plainElem P e v = some z) : ∃ x : Bool, v = .bool x ∧ z = (.lit (.bool x), []) := by
  unfold plainElem at h
  rw [he] at h
  cases v <;> simp at h
  exact ⟨_, rfl, h.symm⟩
/-- 'm[k]' in a map to bools -/
theorem wpList_lookup_own_bool {H : Type} {P : Program} (w : World) {ops : Array Oper} {rest : List Oper} {o : Oper} {a : Act} {Q : Exit → Act → World → Prop}
    (hg : o.guard = none) (m x : Operand) (t : TypeId) (hop : o.op = Op.lookup t m x false)
    (k e : TypeId) (K : Keyed P k) (ht : P.underlying t = some (.map k e)) (he : P.underlying e = some .bool) (hz : (zeroValue e).run P w = .ok (.bool false) w) (b n : Nat) (D : DataW H)
    (hm : a.eval m = .map (some b)) (hown : w.ownsMap P k (plainElem P e) b n D) (key : Value) (kl : Lit) (hx : a.eval x = key) (hkey : keyOf P k key = some kl) (c : Bool) (hat : D.atKey kl (.lit (.bool false)) = .lit (.bool c))
    (hK : wpList P ops Q rest (a.put o.dst (.bool c)) w) :
    wpList P ops Q (o :: rest) a w := by
  refine wpList_plain hg fun K' hK' => ?_
  obtain ⟨v, ps, hrun, hv⟩ := hown.lookup K ht hz (plainElem_bool he false) hkey
  obtain ⟨y, rfl, hy⟩ := plainElem_bool_inv he hv
  rw [hat] at hy
  obtain rfl : c = y := by
    have := congrArg Prod.fst hy
    simpa using this
  unfold Oper.wp
  simp [execOp, hop, hm, hx, hrun, Result.andThen]
  exact hK' _ _ hK
/-- the same under a guard that is met -/
theorem wpList_lookup_own_boolW {H : Type} {P : Program} (w : World) {ops : Array Oper} {rest : List Oper} {o : Oper} {a : Act} {Q : Exit → Act → World → Prop}
    (hw : Region.wanted o (yielded ops a.tmps) = true) (m x : Operand) (t : TypeId) (hop : o.op = Op.lookup t m x false)
    (k e : TypeId) (K : Keyed P k) (ht : P.underlying t = some (.map k e)) (he : P.underlying e = some .bool) (hz : (zeroValue e).run P w = .ok (.bool false) w) (b n : Nat) (D : DataW H)
    (hm : a.eval m = .map (some b)) (hown : w.ownsMap P k (plainElem P e) b n D) (key : Value) (kl : Lit) (hx : a.eval x = key) (hkey : keyOf P k key = some kl) (c : Bool) (hat : D.atKey kl (.lit (.bool false)) = .lit (.bool c))
    (hK : wpList P ops Q rest (a.put o.dst (.bool c)) w) :
    wpList P ops Q (o :: rest) a w := by
  refine wpList_step fun K' hK' => ?_
  rw [if_pos hw]
  obtain ⟨v, ps, hrun, hv⟩ := hown.lookup K ht hz (plainElem_bool he false) hkey
  obtain ⟨y, rfl, hy⟩ := plainElem_bool_inv he hv
  rw [hat] at hy
  obtain rfl : c = y := by
    have := congrArg Prod.fst hy
    simpa using this
  unfold Oper.wp
  simp [execOp, hop, hm, hx, hrun, Result.andThen]
  exact hK' _ _ hK
end Go.Proofs.YtokipobjpinhmaaDoor
