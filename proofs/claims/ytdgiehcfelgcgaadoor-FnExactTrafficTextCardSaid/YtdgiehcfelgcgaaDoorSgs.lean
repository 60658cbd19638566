/- Slices of segments: what the walks say of them. -/
import Derived.Test.YtdgiehcfelgcgaaDoorSgM
import Derived.Test.YtdgiehcfelgcgaaDoorLater
import Derived.Outline
import Derived.BigQuiet
import Derived.Deep.QuietTactic
import Derived.Laws.OwnMore
import Derived.OwnWalk
import Derived.Below
namespace Go.Proofs.YtdgiehcfelgcgaaDoor
open Go.RowKit
set_option maxHeartbeats 2000000
set_option linter.unusedVariables false
set_option linter.unusedSimpArgs false
/-- 'the slice value (a, n, ..) reads as the list L of segments' -/
def Sgs (w : World) (a : Option Addr) (n : Nat) (L : List Sg) : Prop :=
  L.length = n ∧ n ≤ 9223372036854775807 ∧ (∀ k, k < n → ∃ b off, a = some ⟨b, off, none⟩ ∧ ∀ j, j < 7 → w.cell? ⟨b, off + k * 7 + j, none⟩ = some (.int .i64 ((sx L k).at j))) ∧ ∀ x ∈ L, x.In
theorem sg_cell_lt {w : World} {b o : Nat} {v : Value} (h : w.cell? ⟨b, o, none⟩ = some v) : b < w.heap.size := by
  unfold World.cell? at h
  cases hb : w.heap[b]? with
  | none => simp [hb] at h
  | some x => exact (Array.getElem?_eq_some_iff.1 hb).1
/-- the seven cells of segment x at a place -/
def SgAt (w : World) (b o : Nat) (x : Sg) : Prop :=
  w.cell? ⟨b, o, none⟩ = some (.int .i64 x.k) ∧ w.cell? ⟨b, o + 1, none⟩ = some (.int .i64 x.l) ∧ w.cell? ⟨b, o + 2, none⟩ = some (.int .i64 x.r) ∧ w.cell? ⟨b, o + 3, none⟩ = some (.int .i64 x.a) ∧ w.cell? ⟨b, o + 4, none⟩ = some (.int .i64 x.b) ∧ w.cell? ⟨b, o + 5, none⟩ = some (.int .i64 x.c) ∧ w.cell? ⟨b, o + 6, none⟩ = some (.int .i64 x.d)
theorem Sgs.at {w : World} {a : Option Addr} {n : Nat} {L : List Sg} (h : Sgs w a n L) (k : Nat) (hk : k < n) : ∃ b off, a = some ⟨b, off, none⟩ ∧ b < w.heap.size ∧ SgAt w b (off + k * 7) (sx L k) := by
  obtain ⟨b, off, e, hc⟩ := h.2.2.1 k hk
  exact ⟨b, off, e, sg_cell_lt (hc 0 (by omega)), hc 0 (by omega), hc 1 (by omega), hc 2 (by omega), hc 3 (by omega), hc 4 (by omega), hc 5 (by omega), hc 6 (by omega)⟩
theorem Sgs.in {w : World} {a : Option Addr} {n : Nat} {L : List Sg} (h : Sgs w a n L) (k : Nat) (hk : k < n) : (sx L k).In := h.2.2.2 _ (sx_mem L k (by rw [h.1]; exact hk))
theorem Sgs.later {w w' : World} {a : Option Addr} {n : Nat} {L : List Sg} (h : Sgs w a n L) (hb : Later w w') : Sgs w' a n L := by
  obtain ⟨h1, h2, h3, h4⟩ := h
  refine ⟨h1, h2, fun k hk => ?_, h4⟩
  obtain ⟨b, off, rfl, hc⟩ := h3 k hk
  exact ⟨b, off, rfl, fun j hj => by rw [hb.cell (p := ⟨b, off + k * 7 + j, none⟩) (sg_cell_lt (hc j hj))]; exact hc j hj⟩
theorem Sgs.nil (w : World) (a : Option Addr) : Sgs w a 0 [] := ⟨rfl, by omega, fun k hk => absurd hk (by omega), fun x hx => by simp at hx⟩
/-- a row of n segments of the call's own: cell j holds the number f j, and may be written -/
def SgRow (w : World) (g n : Nat) (f : Nat → Int) : Prop :=
  g < w.heap.size ∧ ∀ j, j < n * 7 → w.cell? ⟨g, j, none⟩ = some (.int .i64 (f j)) ∧ w.frozen? ⟨g, j, none⟩ = false
theorem SgRow.lt {w : World} {g n : Nat} {f : Nat → Int} (h : SgRow w g n f) : g < w.heap.size := h.1
theorem SgRow.congr {w : World} {g n : Nat} {f f' : Nat → Int} (h : SgRow w g n f) (e : ∀ j, j < n * 7 → f j = f' j) : SgRow w g n f' :=
  ⟨h.1, fun j hj => by rw [← e j hj]; exact h.2 j hj⟩
theorem SgRow.later {w w' : World} {g n : Nat} {f : Nat → Int} (h : SgRow w g n f) (k : Later w w') : SgRow w' g n f :=
  ⟨Nat.lt_of_lt_of_le h.1 k.size, fun j hj => ⟨by rw [k.cell (p := ⟨g, j, none⟩) h.1]; exact (h.2 j hj).1, by rw [Below.frozen (p := ⟨g, j, none⟩) k h.1]; exact (h.2 j hj).2⟩⟩
theorem SgRow.set1 {w : World} {g n : Nat} {f : Nat → Int} (h : SgRow w g n f) (o : Nat) (v : Int) : SgRow (w.setCell ⟨g, o, none⟩ (.int .i64 v)) g n (fun j => if j = o then v else f j) := by
  refine ⟨by rw [World.size_setCell]; exact h.1, fun j hj => ⟨?_, by rw [World.frozen?_setCell]; exact (h.2 j hj).2⟩⟩
  by_cases e : j = o
  · subst e
    simp only [if_true]
    exact World.cell?_setCell_same _ _ _ (h.2 j hj).1
  · rw [World.cell?_setCell_other _ _ _ _ (by simp [e])]
    simp only [if_neg e]
    exact (h.2 j hj).1
theorem SgRow.far {w : World} {g n : Nat} {f : Nat → Int} (h : SgRow w g n f) {p : Addr} (hp : p.block ≠ g) (u : Value) : SgRow (w.setCell p u) g n f :=
  ⟨by rw [World.size_setCell]; exact h.1, fun j hj => ⟨by rw [World.cell?_setCell_other _ _ _ _ (by intro e; first | (subst e; exact hp rfl) | (rw [← e] at hp; exact hp rfl))]; exact (h.2 j hj).1, by rw [World.frozen?_setCell]; exact (h.2 j hj).2⟩⟩
/-- the seven cells of segment k of such a row, to be written -/
theorem SgRow.seven {w : World} {g n : Nat} {f : Nat → Int} (h : SgRow w g n f) (k : Nat) (hk : k < n) :
    ∀ i, i < 7 → w.cell? ⟨g, k * 7 + i, none⟩ = some (.int .i64 (f (k * 7 + i))) ∧ w.frozen? ⟨g, k * 7 + i, none⟩ = false := fun i hi => h.2 (k * 7 + i) (by omega)
theorem SgRow.seven' {w : World} {g n : Nat} {f : Nat → Int} (h : SgRow w g n f) (k : Nat) (hk : k < n) : ∃ u0 u1 u2 u3 u4 u5 u6 : Value, w.cell? ⟨g, k * 7, none⟩ = some u0 ∧ w.cell? ⟨g, k * 7 + 1, none⟩ = some u1 ∧ w.cell? ⟨g, k * 7 + 2, none⟩ = some u2 ∧ w.cell? ⟨g, k * 7 + 3, none⟩ = some u3 ∧ w.cell? ⟨g, k * 7 + 4, none⟩ = some u4 ∧ w.cell? ⟨g, k * 7 + 5, none⟩ = some u5 ∧ w.cell? ⟨g, k * 7 + 6, none⟩ = some u6 ∧ w.frozen? ⟨g, k * 7, none⟩ = false ∧ w.frozen? ⟨g, k * 7 + 1, none⟩ = false ∧ w.frozen? ⟨g, k * 7 + 2, none⟩ = false ∧ w.frozen? ⟨g, k * 7 + 3, none⟩ = false ∧ w.frozen? ⟨g, k * 7 + 4, none⟩ = false ∧ w.frozen? ⟨g, k * 7 + 5, none⟩ = false ∧ w.frozen? ⟨g, k * 7 + 6, none⟩ = false := by
  exact ⟨_, _, _, _, _, _, _, (h.seven k hk 0 (by omega)).1, (h.seven k hk 1 (by omega)).1, (h.seven k hk 2 (by omega)).1, (h.seven k hk 3 (by omega)).1, (h.seven k hk 4 (by omega)).1, (h.seven k hk 5 (by omega)).1, (h.seven k hk 6 (by omega)).1, (h.seven k hk 0 (by omega)).2, (h.seven k hk 1 (by omega)).2, (h.seven k hk 2 (by omega)).2, (h.seven k hk 3 (by omega)).2, (h.seven k hk 4 (by omega)).2, (h.seven k hk 5 (by omega)).2, (h.seven k hk 6 (by omega)).2⟩
/-- segment k of such a row is written -/
theorem SgRow.put7 {w : World} {g n : Nat} {f f' : Nat → Int} (h : SgRow w g n f) (k : Nat) (v0 v1 v2 v3 v4 v5 v6 : Int) (e : ∀ j, j < n * 7 → f' j = if j = k * 7 + 6 then v6 else if j = k * 7 + 5 then v5 else if j = k * 7 + 4 then v4 else if j = k * 7 + 3 then v3 else if j = k * 7 + 2 then v2 else if j = k * 7 + 1 then v1 else if j = k * 7 then v0 else f j) :
    SgRow (((((((w.setCell ⟨g, k * 7, none⟩ (.int .i64 v0)).setCell ⟨g, k * 7 + 1, none⟩ (.int .i64 v1)).setCell ⟨g, k * 7 + 2, none⟩ (.int .i64 v2)).setCell ⟨g, k * 7 + 3, none⟩ (.int .i64 v3)).setCell ⟨g, k * 7 + 4, none⟩ (.int .i64 v4)).setCell ⟨g, k * 7 + 5, none⟩ (.int .i64 v5)).setCell ⟨g, k * 7 + 6, none⟩ (.int .i64 v6)) g n f' := by
  have h7 := (((((((h.set1 (k * 7) v0).set1 (k * 7 + 1) v1).set1 (k * 7 + 2) v2).set1 (k * 7 + 3) v3).set1 (k * 7 + 4) v4).set1 (k * 7 + 5) v5).set1 (k * 7 + 6) v6)
  exact h7.congr (fun j hj => (e j hj).symm)
theorem SgRow.sgs {w : World} {g n : Nat} {L : List Sg} (h : SgRow w g n (flt L)) (hl : L.length = n) (hn : n ≤ 9223372036854775807) (hr : ∀ x ∈ L, x.In) : Sgs w (some ⟨g, 0, none⟩) n L := by
  refine ⟨hl, hn, fun k hk => ⟨g, 0, rfl, fun j hj => ?_⟩, hr⟩
  have c := (h.2 (k * 7 + j) (by omega)).1
  have e1 : (k * 7 + j) / 7 = k := by omega
  have e2 : (k * 7 + j) % 7 = j := by omega
  unfold flt at c
  rw [e1, e2] at c
  rw [Nat.zero_add]
  exact c
theorem SgRow.of_own {w : World} {base g n : Nat} {T : TypeId} {f : Nat → Int} {xs : List Value} (h : w.ownsRow base T 7 (.slice (some ⟨g, 0, none⟩) n n) n xs) (hx : ∀ j, j < n * 7 → xs[j]? = some (.int .i64 (f j))) : SgRow w g n f :=
  ⟨(h.lt g rfl).2, fun j hj => ⟨by rw [h.cellAt j hj]; exact hx j hj, h.frozenAt j⟩⟩
/-- segment k of a list is written, behind the first k -/
theorem SgRow.putK {w : World} {g n k : Nat} {L : List Sg} (h : SgRow w g n (fltK L k)) (hk : k < n) : SgRow (((((((w.setCell ⟨g, k * 7, none⟩ (.int .i64 (sx L k).k)).setCell ⟨g, k * 7 + 1, none⟩ (.int .i64 (sx L k).l)).setCell ⟨g, k * 7 + 2, none⟩ (.int .i64 (sx L k).r)).setCell ⟨g, k * 7 + 3, none⟩ (.int .i64 (sx L k).a)).setCell ⟨g, k * 7 + 4, none⟩ (.int .i64 (sx L k).b)).setCell ⟨g, k * 7 + 5, none⟩ (.int .i64 (sx L k).c)).setCell ⟨g, k * 7 + 6, none⟩ (.int .i64 (sx L k).d)) g n (fltK L (k + 1)) := by
  refine h.put7 k _ _ _ _ _ _ _ ?_
  intro j hj
  unfold fltK flt
  by_cases h1 : j < k * 7
  · rw [if_pos (by omega), if_neg (by omega), if_neg (by omega), if_neg (by omega), if_neg (by omega), if_neg (by omega), if_neg (by omega), if_neg (by omega), if_pos h1]
  · by_cases h2 : j < (k + 1) * 7
    · rw [if_pos h2]
      have e : j / 7 = k := by omega
      obtain ⟨i, rfl⟩ : ∃ i, j = k * 7 + i := ⟨j - k * 7, by omega⟩
      have hi : i < 7 := by omega
      have e2 : (k * 7 + i) % 7 = i := by omega
      rw [e, e2]
      have hi' : i = 0 ∨ i = 1 ∨ i = 2 ∨ i = 3 ∨ i = 4 ∨ i = 5 ∨ i = 6 := by omega
      rcases hi' with rfl | rfl | rfl | rfl | rfl | rfl | rfl <;> simp [Sg.at]
    · rw [if_neg h2, if_neg (by omega), if_neg (by omega), if_neg (by omega), if_neg (by omega), if_neg (by omega), if_neg (by omega), if_neg (by omega), if_neg h1]
theorem sx_set (L : List Sg) (k i : Nat) (x : Sg) (hk : k < L.length) : sx (L.set k x) i = if i = k then x else sx L i := by
  unfold sx
  rw [List.getD_eq_getElem?_getD, List.getElem?_set, List.getD_eq_getElem?_getD]
  by_cases e : k = i
  · subst e; simp [hk]
  · rw [if_neg e, if_neg (by omega)]
/-- one segment of a row is written -/
theorem SgRow.putSet {w : World} {g n k : Nat} {L : List Sg} (h : SgRow w g n (flt L)) (hl : L.length = n) (hk : k < n) (x : Sg) : SgRow (((((((w.setCell ⟨g, k * 7, none⟩ (.int .i64 x.k)).setCell ⟨g, k * 7 + 1, none⟩ (.int .i64 x.l)).setCell ⟨g, k * 7 + 2, none⟩ (.int .i64 x.r)).setCell ⟨g, k * 7 + 3, none⟩ (.int .i64 x.a)).setCell ⟨g, k * 7 + 4, none⟩ (.int .i64 x.b)).setCell ⟨g, k * 7 + 5, none⟩ (.int .i64 x.c)).setCell ⟨g, k * 7 + 6, none⟩ (.int .i64 x.d)) g n (flt (L.set k x)) := by
  refine h.put7 k _ _ _ _ _ _ _ ?_
  intro j hj
  unfold flt
  rw [sx_set L k _ x (by omega)]
  by_cases h1 : j / 7 = k
  · rw [if_pos h1]
    obtain ⟨i, rfl⟩ : ∃ i, j = k * 7 + i := ⟨j - k * 7, by omega⟩
    have hi : i < 7 := by omega
    have e2 : (k * 7 + i) % 7 = i := by omega
    rw [e2]
    have hi' : i = 0 ∨ i = 1 ∨ i = 2 ∨ i = 3 ∨ i = 4 ∨ i = 5 ∨ i = 6 := by omega
    rcases hi' with rfl | rfl | rfl | rfl | rfl | rfl | rfl <;> simp [Sg.at]
  · rw [if_neg h1, if_neg (by omega), if_neg (by omega), if_neg (by omega), if_neg (by omega), if_neg (by omega), if_neg (by omega), if_neg (by omega)]
theorem SgRow.grown {w w' : World} {g n : Nat} {f : Nat → Int} {B : Nat} (h : SgRow w g n f) (hg : w.grownBy w' (some B)) (hne : g ≠ B) : SgRow w' g n f :=
  ⟨Nat.lt_of_lt_of_le h.1 hg.size, fun j hj => ⟨hg.cell (h.2 j hj).1 (fun e => hne (Option.some.inj e)), by rw [World.frozen?_of_block (w := w) (hg.block g h.1 (fun e => hne (Option.some.inj e)))]; exact (h.2 j hj).2⟩⟩
end Go.Proofs.YtdgiehcfelgcgaaDoor
