/- Slices of structs of numbers, each struct wd cells wide: what the walks say of them (for every such type). -/
import Derived.Test.YtpeebgkgccacbaaSl
import Derived.Test.YtpeebgkgccacbaaGrown
import Derived.Test.YtpeebgkgccacbaaOwn
import Derived.WalkSmall
import Derived.Deep.DeepMust
namespace Go.Proofs.Ytpeebgkgccacbaa
open Go.RowKit
set_option maxHeartbeats 2000000
set_option linter.unusedVariables false
set_option linter.unusedSimpArgs false
/-- 'the slice value (a, n, ..) of structs that are wd cells wide reads as the numbers l' -/
def Wd (w : World) (a : Option Addr) (n wd : Nat) (l : List Int) : Prop :=
  l.length = n * wd ∧ n ≤ 9223372036854775807 ∧ (∀ j, j < n * wd → ∃ b off, a = some ⟨b, off, none⟩ ∧ w.cell? ⟨b, off + j, none⟩ = some (.int .i64 (gx l j))) ∧ ∀ x ∈ l, InR x
theorem Wd.rng {w : World} {a : Option Addr} {n wd : Nat} {l : List Int} (h : Wd w a n wd l) (j : Nat) (hj : j < n * wd) : InR (gx l j) := h.2.2.2 _ (gx_mem l j (by rw [h.1]; exact hj))
theorem Wd.later {w w' : World} {a : Option Addr} {n wd : Nat} {l : List Int} (h : Wd w a n wd l) (hb : Later w w') : Wd w' a n wd l := by
  obtain ⟨h1, h2, h3, h4⟩ := h
  refine ⟨h1, h2, fun j hj => ?_, h4⟩
  obtain ⟨b, off, rfl, hc⟩ := h3 j hj
  exact ⟨b, off, rfl, by rw [hb.cell (p := ⟨b, off + j, none⟩) (cell_lt hc)]; exact hc⟩
theorem Wd.kept {w w' : World} {a : Option Addr} {n wd : Nat} {l : List Int} {r : Option Nat} (h : Wd w a n wd l) (hg : w.grownBy w' r) (hr : ∀ x, a = some x → r ≠ some x.block) : Wd w' a n wd l := by
  obtain ⟨h1, h2, h3, h4⟩ := h
  refine ⟨h1, h2, fun j hj => ?_, h4⟩
  obtain ⟨b, off, rfl, hc⟩ := h3 j hj
  exact ⟨b, off, rfl, hg.cell hc (fun e => hr _ rfl e.symm)⟩
/-- element k of such a slice, its cells from k * 2 on -/
theorem Wd.two {w : World} {a : Option Addr} {n : Nat} {l : List Int} (h : Wd w a n 2 l) (k : Nat) (hk : k < n) :
    ∃ b off, a = some ⟨b, off, none⟩ ∧ w.cell? ⟨b, off + k * 2, none⟩ = some (.int .i64 (gx l (k * 2))) ∧ w.cell? ⟨b, off + k * 2 + 1, none⟩ = some (.int .i64 (gx l (k * 2 + 1))) := by
  obtain ⟨b, off, rfl, h0⟩ := h.2.2.1 (k * 2) (by omega)
  obtain ⟨b', off', e, h1⟩ := h.2.2.1 (k * 2 + 1) (by omega)
  cases e
  exact ⟨b, off, rfl, h0, h1⟩
/-- 'v is such a slice of the call's own, in blocks from base on' -/
def OwnW (w : World) (base : Nat) (T : TypeId) (wd : Nat) (v : Value) (n : Nat) (l : List Int) : Prop :=
  w.ownsRow base T wd v n (l.map (Value.int .i64)) ∧ ∀ x ∈ l, InR x
theorem OwnW.lt {w : World} {base wd n : Nat} {T : TypeId} {v : Value} {l : List Int} (h : OwnW w base T wd v n l) : ∀ k, v.ownBlock = some k → base ≤ k ∧ k < w.heap.size := h.1.lt
theorem OwnW.len {w : World} {base wd n : Nat} {T : TypeId} {v : Value} {l : List Int} (h : OwnW w base T wd v n l) : l.length = n * wd := by have := h.1.1; simpa using this
theorem OwnW.kept {w w' : World} {base wd n : Nat} {T : TypeId} {v : Value} {l : List Int} {row : Option Nat} (h : OwnW w base T wd v n l) (hg : w.grownBy w' row) (hr : ∀ k, v.ownBlock = some k → row ≠ some k) : OwnW w' base T wd v n l := by
  refine ⟨h.1.kept hg ?_, h.2⟩
  cases hv : v.ownBlock with
  | none => exact .inl rfl
  | some k => exact .inr (fun e => hr k hv e.symm)
theorem OwnW.later {w w' : World} {base wd n : Nat} {T : TypeId} {v : Value} {l : List Int} (h : OwnW w base T wd v n l) (k : Later w w') : OwnW w' base T wd v n l :=
  h.kept (row := none) ⟨k.os, k.tape, k.output, k.size, fun i hi _ => k.block i hi⟩ (fun _ _ e => by cases e)
theorem OwnW.mono {w : World} {base base' wd n : Nat} {T : TypeId} {v : Value} {l : List Int} (h : OwnW w base T wd v n l) (hb : base' ≤ base) : OwnW w base' T wd v n l := by
  refine ⟨⟨h.1.1, ?_⟩, h.2⟩
  rcases h.1.2 with h0 | ⟨g, cap, cur, e, hg, r⟩
  · exact .inl h0
  · exact .inr ⟨g, cap, cur, e, by omega, r⟩
theorem ownW_none (w : World) (base wd : Nat) (T : TypeId) : OwnW w base T wd (.slice none 0 0) 0 [] := ⟨⟨by simp, .inl ⟨rfl, rfl⟩⟩, fun x hx => by simp at hx⟩
theorem ownW_new (w : World) (base wd : Nat) (T : TypeId) (h : base ≤ w.heap.size) : OwnW (w.alloc (.cells #[] T)) base T wd (.slice (some ⟨w.heap.size, 0, none⟩) 0 0) 0 [] :=
  ⟨World.ownsRow_made w #[] 0 h (by unfold maxLen; omega) (by simp), fun x hx => by simp at hx⟩
theorem OwnW.wd {w : World} {base wd n : Nat} {T : TypeId} {v : Value} {l : List Int} (h : OwnW w base T wd v n l) : ∃ a cap, v = .slice a n cap ∧ n ≤ cap ∧ Wd w a n wd l ∧ (∀ x, a = some x → base ≤ x.block ∧ x.block < w.heap.size) ∧ (a = none → cap = 0) := by
  have h1 := h.1
  have hlen := h.len
  rcases h1.2 with ⟨rfl, rfl⟩ | ⟨g, cap, cur, rfl, hb, hg, hnc, hcm, _⟩
  · exact ⟨none, 0, rfl, Nat.le_refl _, ⟨hlen, by omega, fun j hj => by simp at hj, h.2⟩, fun x hx => by (cases hx), fun _ => rfl⟩
  · have hm := hcm
    unfold maxLen at hm
    refine ⟨some ⟨g, 0, none⟩, cap, rfl, hnc, ⟨hlen, by omega, fun j hj => ⟨g, 0, rfl, ?_⟩, h.2⟩, fun x hx => by cases hx; exact ⟨hb, (h1.lt g rfl).2⟩, fun e => by cases e⟩
    rw [Nat.zero_add, h1.cellAt j hj, List.getElem?_map, List.getElem?_eq_getElem (by omega), ← gx_of l j (by omega)]; rfl
/-- append(out, M...), the cells of M in a new block -/
theorem appW {ops : Array Oper} {rest : List Oper} {o : Oper} {act : Act} {Q : Exit → Act → World → Prop} (hgd : o.guard = none) (s x : Operand) (T S : TypeId) (z : Value) (wd bytes : Nat)
    (hI : (Try.prog.info? T).map (fun i => (i.zero, i.size, i.bytes)) = some (some z, wd, bytes)) (hU : Try.prog.underlying S = some (.slice T)) (hzs : z.cells.size = wd) (hwd : 0 < wd) (hby : bytes ≤ 1000)
    (ho : o.op = .call { callee := .builtin .append, args := #[s, x], argTypes := #[S, S] })
    (base : Nat) (W : World) (T' : TypeId) (v : Value) (n m : Nat) (l M : List Int) (cells : Array Value) (hcells : cells = (M.map (Value.int .i64)).toArray) (hm : M.length = m * wd) (hown : OwnW W base T wd v n l) (hs : act.eval s = v) (hx : act.eval x = .slice (some ⟨W.heap.size, 0, none⟩) m m) (hy : ∀ x ∈ M, InR x) (hl : n + m ≤ 1000000000) (hbase : base ≤ W.heap.size)
    (h : ∀ v' w', OwnW w' base T wd v' (n + m) (l ++ M) → W.grownBy w' v.ownBlock → wpList Try.prog ops Q rest (act.put o.dst v') w') : wpList Try.prog ops Q (o :: rest) act (W.alloc (.cells cells T')) := by
  subst hcells
  obtain ⟨i0, hi, hz0, hz1, hz2⟩ := info_parts hI
  have hc : ∀ j u, (M.map (Value.int .i64))[j]? = some u → (W.alloc (.cells (M.map (Value.int .i64)).toArray T')).cell? ⟨W.heap.size, j, none⟩ = some u := by
    intro j u hu
    rw [cell_of_row _ _ j _ T' (0, 0) (heap_alloc_new W _)]
    simpa using hu
  have hown' : (W.alloc (.cells (M.map (Value.int .i64)).toArray T')).ownsRow base T wd v n (l.map (Value.int .i64)) := hown.1.alloc _
  have hbb : (n + m) * bytes ≤ 1000000000 * 1000 := Nat.mul_le_mul hl hby
  refine wpList_append_own _ hgd s x _ ho base T i0 z wd bytes hU hi hz0 hz1 hz2 hzs hwd v n _ hs hown' ⟨W.heap.size, 0, none⟩ m m (M.map (Value.int .i64)) hx (by rw [List.length_map, hm]) ?_ ?_ (by unfold maxLen; omega) (by omega) (by show base ≤ (W.alloc _).heap.size; simp; omega) ?_
  · intro j u hj
    rw [Addr.add_lit, Nat.zero_add]
    exact hc j u hj
  · intro u hu
    obtain ⟨y, _, rfl⟩ := List.mem_map.1 hu
    rfl
  · intro v' w' h1 h2 _
    refine h v' w' ⟨?_, ?_⟩ (grown_trans (World.grownBy_alloc W _ _) h2)
    · rw [List.map_append]; exact h1
    · intro z hz
      rcases List.mem_append.1 hz with hz | hz
      · exact hown.2 z hz
      · exact hy z hz
/-- the numbers of a list of intervals, of which k are marked -/
def mrk2 (l : List Int) (k : Nat) : List Int := (List.range l.length).map fun j => if j < k * 2 then 1 + (j : Int) else gx l j
theorem mrk2_len (l : List Int) (k : Nat) : (mrk2 l k).length = l.length := by simp [mrk2]
theorem mrk2_get (l : List Int) (k j : Nat) (h : j < l.length) : (mrk2 l k)[j]? = some (if j < k * 2 then 1 + (j : Int) else gx l j) := by simp [mrk2, h]
theorem mrk2_gx (l : List Int) (k j : Nat) (h : j < l.length) (hj : j < k * 2) : gx (mrk2 l k) j = 1 + (j : Int) := by
  rw [gx_of _ _ (by rw [mrk2_len]; exact h)]
  simp [mrk2, hj]
theorem mrk2_0 (l : List Int) : mrk2 l 0 = l := by
  apply List.ext_getElem?
  intro j
  by_cases h : j < l.length
  · rw [mrk2_get l 0 j h, if_neg (by omega), List.getElem?_eq_getElem h, gx_of l j h]
  · rw [List.getElem?_eq_none (by rw [mrk2_len]; omega), List.getElem?_eq_none (by omega)]
theorem mrk2_set (l : List Int) (k : Nat) (hk : k * 2 + 1 < l.length) : ((mrk2 l k).set (k * 2) (1 + ((k * 2 : Nat) : Int))).set (k * 2 + 1) (1 + ((k * 2 + 1 : Nat) : Int)) = mrk2 l (k + 1) := by
  apply List.ext_getElem?
  intro j
  by_cases h : j < l.length
  · rw [List.getElem?_set, List.getElem?_set, List.length_set, mrk2_len, mrk2_get l k j h, mrk2_get l (k + 1) j h]
    by_cases e : k * 2 + 1 = j
    · subst e; rw [if_pos rfl, if_pos h, if_pos (by omega)]
    · rw [if_neg e]
      by_cases e2 : k * 2 = j
      · subst e2; rw [if_pos rfl, if_pos h, if_pos (by omega)]
      · rw [if_neg e2]
        by_cases c : j < k * 2
        · rw [if_pos c, if_pos (by omega)]
        · rw [if_neg c, if_neg (by omega)]
  · rw [List.getElem?_eq_none (by simp [mrk2]; omega), List.getElem?_eq_none (by simp [mrk2]; omega)]
theorem mrk2_in (l : List Int) (k : Nat) (hl : l.length ≤ 1000000000) (h : ∀ x ∈ l, InR x) : ∀ x ∈ mrk2 l k, InR x := by
  intro x hx
  obtain ⟨j, hj, rfl⟩ := List.mem_map.1 hx
  rw [List.mem_range] at hj
  by_cases c : j < k * 2
  · simp only [if_pos c]; exact ⟨by omega, by omega⟩
  · simp only [if_neg c]; exact h _ (gx_mem l j hj)
end Go.Proofs.Ytpeebgkgccacbaa
