/- The table of operations, as the program's text lays it. -/
import Derived.Test.YtokipobjpinhmaaDoorPss
import Derived.Test.YtokipobjpinhmaaDoorRows
import Derived.LaidMore
import Derived.OpenShut
import Derived.Lib.LaidTab
namespace Go.Proofs.YtokipobjpinhmaaDoor
open Go.RowKit
set_option maxHeartbeats 2000000
set_option maxRecDepth 100000
set_option linter.unusedVariables false
set_option linter.unusedSimpArgs false
/-- the keywords of the kinds, what they take, and whether a number is written with them -/
def opL : List (List UInt8 × Int × Bool) := [([], 0, false), ([], 0, false), ([116, 114, 117, 101], 0, false), ([102, 97, 108, 115, 101], 0, false), ([110, 111, 116], 1, false), ([97, 110, 100], 2, false), ([111, 114], 2, false), ([111, 110], 1, true), ([111, 102, 102], 1, true), ([114, 105, 115, 101], 1, false), ([108, 97, 116, 99, 104], 2, false), ([99, 111, 117, 110, 116], 2, true), ([112, 97, 105, 114], 2, true)]
def opW (j : Nat) : List UInt8 := (opL.getD j ([], 0, false)).1
def opV (j : Nat) : Int := (opL.getD j ([], 0, false)).2.1
def opN (j : Nat) : Bool := (opL.getD j ([], 0, false)).2.2
theorem opV_tk (j : Nat) (h : j < 13) (h1 : 1 ≤ j) : opV j = (tkK (j : Int) : Nat) := by
  have : ∀ j : Fin 13, 1 ≤ j.val → opV j.val = (tkK (j.val : Int) : Nat) := by decide +kernel
  exact this ⟨j, h⟩ h1
theorem opN_cnt (j : Nat) (h : j < 13) : opN j = cntK (j : Int) := by
  have : ∀ j : Fin 13, opN j.val = cntK (j.val : Int) := by decide +kernel
  exact this ⟨j, h⟩
/-- the table holds them -/
def Ops (w : World) : Prop := ∀ j : Nat, j < 13 → w.cell? ⟨0, j * 3, none⟩ = some (.string (tx (opW j))) ∧ w.cell? ⟨0, j * 3 + 1, none⟩ = some (.int .i64 (opV j)) ∧ w.cell? ⟨0, j * 3 + 2, none⟩ = some (.bool (opN j))
theorem Ops.lt {w : World} (h : Ops w) : 0 < w.heap.size := cell_lt (h 0 (by omega)).1
theorem Ops.later {w w' : World} (h : Ops w) (hb : Later w w') : Ops w' := fun j hj => by
  obtain ⟨h1, h2, h3⟩ := h j hj
  exact ⟨by rw [hb.cell (p := ⟨_, j * 3, none⟩) h.lt]; exact h1, by rw [hb.cell (p := ⟨_, j * 3 + 1, none⟩) h.lt]; exact h2, by rw [hb.cell (p := ⟨_, j * 3 + 2, none⟩) h.lt]; exact h3⟩
theorem Ops.grown {w w' : World} (h : Ops w) {r : Option Nat} (hg : w.grownBy w' r) (hr : r ≠ some 0) : Ops w' := fun j hj => by
  obtain ⟨h1, h2, h3⟩ := h j hj
  exact ⟨hg.cell h1 (fun e => hr e.symm), hg.cell h2 (fun e => hr e.symm), hg.cell h3 (fun e => hr e.symm)⟩
section
variable {H : Type} {enc : TypeId × Value → H} {w : World} {base : Nat} {spare : Nat → Bool} {held : Bool}
theorem cells_op : Tryd.prog.cellsOf 137 = 3 := by kernel_rfl
theorem op_cells_str : Tryd.prog.cellsOf 9 = 1 := by kernel_rfl
theorem op_cells_int : Tryd.prog.cellsOf 2 = 1 := by kernel_rfl
theorem op_cells_bool : Tryd.prog.cellsOf 4 = 1 := by kernel_rfl
theorem op_one {l : List Value} {k : Nat} {v : Value} (h : (l.drop k).take 1 = [v]) : l[k]? = some v := by
  have := congrArg (fun x => x[0]?) h
  simpa [List.getElem?_take, List.getElem?_drop] using this
theorem op_row {n : Nat} {cs : List Value} {s : List UInt8} {v : Int} {b : Bool} {p : List MemPlace} (h : DataW.trod enc Tryd.prog w base spare held n 137 cs = some (.agg [.lit (.string s), .lit (.int .i64 v), .lit (.bool b)], p)) :
    cs = [.string (tx s), .int .i64 v, .bool b] := by
  obtain ⟨xs, m, _, hx, hl, hlen, hf⟩ := DataW.trod_struct Tryd.underlying137 h
  rw [cells_op] at hl
  have hd : xs.map (·.1) = [.lit (.string s), .lit (.int .i64 v), .lit (.bool b)] := by
    have := congrArg Prod.fst hx
    simpa using this.symm
  match xs, hd with
  | [x0, x1, x2], hd =>
    simp at hd
    obtain ⟨d0, d1, d2⟩ := hd
    have h0 := hf 0 _ rfl
    have h1 := hf 1 _ rfl
    have h2 := hf 2 _ rfl
    obtain ⟨s', es, ds, _⟩ := DataW.trod_string Tryd.underlying9 h0
    obtain ⟨v', ev, dv, _⟩ := DataW.trod_int Tryd.underlying2 h1
    obtain ⟨b', eb, db⟩ := DataW.trod_bool Tryd.underlying4 h2
    have es : (cs.drop 0).take (Tryd.prog.cellsOf 9) = [.string s'] := es
    have ev : (cs.drop 1).take (Tryd.prog.cellsOf 2) = [.int .i64 v'] := ev
    have eb : (cs.drop 2).take (Tryd.prog.cellsOf 4) = [.bool b'] := eb
    rw [op_cells_str] at es; rw [op_cells_int] at ev; rw [op_cells_bool] at eb
    have es := op_one es; have ev := op_one ev; have eb := op_one eb
    rw [ds] at d0; rw [dv] at d1; rw [db] at d2
    simp at d0 d1 d2
    match cs, hl with
    | [c0, c1, c2], _ =>
      simp at es ev eb
      rw [es, ev, eb, ← d0, ← d1, ← d2]; rfl
theorem op_tab {n : Nat} {cs : List Value} {p : List MemPlace} (h : DataW.trod enc Tryd.prog w base spare held n 138 cs = some (Rows.laid_loop_example_g00916_impl_operations, p)) :
    ∀ j, j < 13 → cs[j * 3]? = some (.string (tx (opW j))) ∧ cs[j * 3 + 1]? = some (.int .i64 (opV j)) ∧ cs[j * 3 + 2]? = some (.bool (opN j)) := by
  obtain ⟨xs, m, _, hx, hl, hlen, hf⟩ := DataW.trod_array Tryd.underlying138 h
  rw [cells_op] at hf
  have hd : xs.map (·.1) = opL.map fun x => .agg [.lit (.string x.1), .lit (.int .i64 x.2.1), .lit (.bool x.2.2)] := by
    have := congrArg Prod.fst hx
    simp only [Rows.laid_loop_example_g00916_impl_operations] at this
    simpa [opL] using this.symm
  intro j hj
  have h1 := hf j hj
  rw [List.getElem?_eq_getElem (by omega)] at h1
  have h2 : (xs.map (·.1))[j]? = some (xs[j]'(by omega)).1 := by rw [List.getElem?_map, List.getElem?_eq_getElem (by omega)]; rfl
  rw [hd, List.getElem?_map, List.getElem?_eq_getElem (show j < opL.length from hj)] at h2
  have h3 : (xs[j]'(by omega)).1 = .agg [.lit (.string (opW j)), .lit (.int .i64 (opV j)), .lit (.bool (opN j))] := by
    have := Option.some.inj h2
    rw [← this]
    unfold opW opV opN
    rw [List.getD_eq_getElem?_getD, List.getElem?_eq_getElem (show j < opL.length from hj)]; rfl
  obtain ⟨x, hxx⟩ : ∃ x, x = xs[j]'(by omega) := ⟨_, rfl⟩
  rw [← hxx] at h1 h3
  obtain ⟨d, q⟩ := x
  simp only at h3
  subst h3
  have h4 := op_row h1
  have g : ∀ i, i < 3 → cs[j * 3 + i]? = ([.string (tx (opW j)), .int .i64 (opV j), .bool (opN j)] : List Value)[i]? := by
    intro i hi
    rw [← h4, List.getElem?_take, if_pos hi, List.getElem?_drop]
  exact ⟨g 0 (by omega), g 1 (by omega), g 2 (by omega)⟩
end
theorem gOps : Tryd.prog.globalNamed "loop.example/g00916/impl.operations" = some 0 := by kernel_rfl
theorem tOps : (Tryd.prog.globals[0]?).map (·.type) = some 138 := by kernel_rfl
theorem ops_of {H : Type} {enc : TypeId × Value → H} {W w : World} {base : Nat} {spare : Nat → Bool} {held : Bool} {n : Nat} {cs : Array Value} {p : List MemPlace} (hv : W.var? Tryd.prog "loop.example/g00916/impl.operations" = some cs)
    (h : DataW.trod enc Tryd.prog w base spare held n 138 cs.toList = some (Rows.laid_loop_example_g00916_impl_operations, p)) : Ops W := by
  unfold World.var? at hv
  rw [gOps] at hv
  simp only [Option.bind_some] at hv
  split at hv
  · rename_i cs' t fr hh
    obtain rfl := Option.some.inj hv
    intro j hj
    obtain ⟨a, b, c⟩ := op_tab h j hj
    rw [cell_of_row _ _ _ _ _ _ hh, cell_of_row _ _ _ _ _ _ hh, cell_of_row _ _ _ _ _ _ hh]
    exact ⟨by simpa using a, by simpa using b, by simpa using c⟩
  · cases hv
end Go.Proofs.YtokipobjpinhmaaDoor
