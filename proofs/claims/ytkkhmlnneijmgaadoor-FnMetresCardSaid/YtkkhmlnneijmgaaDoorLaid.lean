/- What the rows' condition on the listed variables gives the walks: the table that strconv reads. -/
import Derived.Test.YtkkhmlnneijmgaaDoorRows
import Derived.Test.YtkkhmlnneijmgaaDoorRead
import Derived.LaidMore
import Derived.Stop.Joined
import Derived.ProofKit
import Derived.OpenShut
import Derived.LaidLaws
namespace Go.Proofs.YtkkhmlnneijmgaaDoor
open Go.RowKit Go.ChangeShapes Go.WideShapes Go.ChangeAt
theorem gTab : Tryd.prog.globalNamed "internal/strconv.uint64pow10" = some 0 := by kernel_rfl
theorem tTab : (Tryd.prog.globals[0]?).map (·.type) = some 65 := by kernel_rfl
theorem tab3 {W : World} (h : laidMetH Tryd.prog Rows.fnExactMetresTextRow.laid W) : Tab W := by
  rw [MakeChecks.laidMetH_plain _ _ _ (by kernel_rfl)] at h
  obtain ⟨ps, ⟨g0, t0, cs0, f0, p0, q0, _, _, _, _, ⟨g1, t1, cs1, f1, p1, q1, _, _, _, _, ⟨g2, t2, cs2, f2, p2, q2, hg2, ht2, hv2, hd2, _⟩, _⟩, _⟩, _, _⟩ := h
  obtain rfl := Option.some.inj (gTab.symm.trans hg2)
  obtain rfl := Option.some.inj (tTab.symm.trans ht2)
  unfold Tab Lib.TabIs
  rw [hv2, ← Lib.cells_of_tab (k := .u64) (zs := Lib.pow10Tab) Tryd.underlying65 Tryd.underlying51 (by kernel_rfl) (by kernel_rfl) hd2]
theorem tSyn : (Tryd.prog.globals[1]?).map (·.type) = some 36 := by kernel_rfl
theorem tRan : (Tryd.prog.globals[2]?).map (·.type) = some 36 := by kernel_rfl
theorem one_of {cs : Array Value} {v : Value} (h : cs.toList = [v]) : cs = #[v] := by cases cs; simp_all
theorem all5 {W : World} (h : laidMetH Tryd.prog Rows.fnExactReadMetresRow.laid W) : Tab W ∧ Errs W := by
  rw [MakeChecks.laidMetH_plain _ _ _ (by kernel_rfl)] at h
  obtain ⟨ps, ⟨g0, t0, cs0, f0, p0, q0, _, _, _, _, ⟨g1, t1, cs1, f1, p1, q1, _, _, _, _, ⟨g2, t2, cs2, f2, p2, q2, hg2, ht2, hv2, hd2, ⟨g3, t3, cs3, f3, p3, q3, hg3, ht3, hv3, hd3, ⟨g4, t4, cs4, f4, p4, q4, hg4, ht4, hv4, hd4, _⟩, _⟩, _⟩, _⟩, _⟩, _, _⟩ := h
  obtain rfl := Option.some.inj (gTab.symm.trans hg2)
  obtain rfl := Option.some.inj (tTab.symm.trans ht2)
  obtain rfl := Option.some.inj (gRan.symm.trans hg3)
  obtain rfl := Option.some.inj (tRan.symm.trans ht3)
  obtain rfl := Option.some.inj (gSyn.symm.trans hg4)
  obtain rfl := Option.some.inj (tSyn.symm.trans ht4)
  refine ⟨?_, ?_, ?_⟩
  · unfold Tab Lib.TabIs
    rw [hv2, ← Lib.cells_of_tab (k := .u64) (zs := Lib.pow10Tab) Tryd.underlying65 Tryd.underlying51 (by kernel_rfl) (by kernel_rfl) hd2]
  · obtain ⟨f, u, v, hc, _, _⟩ := iface_of_trod Tryd.underlying36 hd4
    exact ⟨u, v, by rw [hv4, one_of hc]⟩
  · obtain ⟨f, u, v, hc, _, _⟩ := iface_of_trod Tryd.underlying36 hd3
    exact ⟨u, v, by rw [hv3, one_of hc]⟩
theorem all5m {W : World} (h : laidMetH Tryd.prog Rows.fnMetresRow.laid W) : Tab W ∧ Errs W := all5 h
end Go.Proofs.YtkkhmlnneijmgaaDoor
