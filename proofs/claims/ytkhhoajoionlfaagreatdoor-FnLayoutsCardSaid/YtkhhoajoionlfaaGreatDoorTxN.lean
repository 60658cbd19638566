/- The text of a segment, of the model. -/
import Derived.Test.YtkhhoajoionlfaaGreatDoorTxM
import Derived.Test.YtkhhoajoionlfaaGreatDoorTx0
import Derived.Test.YtkhhoajoionlfaaGreatDoorSg0
import Derived.RegionTactic
import Derived.ChangeAlike
import Derived.BigQuiet
import Derived.Deep.QuietTactic
namespace Go.Proofs.YtkhhoajoionlfaaGreatDoor
open Go.RowKit Go.Shelf
set_option maxHeartbeats 4000000
set_option linter.unusedVariables false
set_option linter.unusedSimpArgs false
theorem sg_bd (x : Sg) (h : sgB x = true) (j : Nat) : -200000 ≤ x.at j ∧ x.at j ≤ 200000 := by
  obtain ⟨h1, h2, h3, h4, h5, h6⟩ := (sgB_iff x).1 h
  by_cases h0 : x.k = 0
  · have := h5 h0
    unfold Sg.at; split <;> omega
  · have := h6 h0
    unfold Sg.at; split <;> omega
theorem s_Number (n : Int) (h0 : -9223372036854775807 ≤ n) (h1 : n ≤ 9223372036854775807) (w : World) : Calls Tryz.prog 42 #[.int .i64 n] w (Texts w (Lib.itoa n)) := by
  by_cases hn : n < 0
  · obtain ⟨m, rfl⟩ : ∃ m, n = -m := ⟨-n, by omega⟩
    have e1 : IntKind.i64.wrap (- -m) = m := by rw [IntWalk.i64_in _ (by omega)]; omega
    have hz : (tx (Lib.decDigits m.toNat)).size ≤ 1000 := tx_dec _ (by omega)
    have e2 : Hid (Lib.itoa (-m) = 45 :: Lib.decDigits m.toNat) := Lib.hid (by unfold Lib.itoa; rw [if_pos hn, show (-m).natAbs = m.toNat by omega])
    go_enter Tryz.func42, Tryz.ntmps42
    go_wp2_with fail
    (try simp only [Int.neg_neg])
    refine (s_Dec (m.toNat + 1) m _ (by omega) (by omega) (by omega)).mono ?_
    rintro e w1 ⟨rfl, hb1⟩
    have B1 := Lib.hid hb1
    clear hb1
    go_wp2_with fail
    go_ret
    refine ⟨congrArg (fun s => Ending.returned (.string s)) ?_, B1.out⟩
    show tx [45] ++ tx (Lib.decDigits m.toNat) = tx (Lib.itoa (-m))
    rw [tx_app, e2.out]
    rfl
  · have e2 : Hid (Lib.itoa n = Lib.decDigits n.toNat) := Lib.hid (by unfold Lib.itoa; rw [if_neg hn])
    go_enter Tryz.func42, Tryz.ntmps42
    go_wp2_with fail
    refine (s_Dec (n.toNat + 1) n _ (by omega) (by omega) (by omega)).mono ?_
    rintro e w1 ⟨rfl, hb1⟩
    have B1 := Lib.hid hb1
    clear hb1
    go_wp2_with fail
    go_ret
    exact ⟨by rw [e2.out]; rfl, B1.out⟩
theorem cell_new (W : World) (B j : Nat) (cells : Array Value) (T : TypeId) (v : Value) (hB : B = W.heap.size) (hv : cells[j]? = some v) : (W.alloc (.cells cells T)).cell? ⟨B, j, none⟩ = some v := by
  subst hB; rw [cell_of_row _ _ j _ T (0, 0) (heap_alloc_new W _)]; exact hv
theorem cell_drew (W : World) (p : Addr) (v : Value) (h : W.cell? p = some v) : W.drew.cell? p = some v := h
/-- the first j numbers of a segment's text, behind its kind -/
def preTx (x : Sg) (j : Nat) : List UInt8 := kNm x.k ++ ((List.range j).map (fun i => 32 :: Lib.itoa (x.at (i + 1)))).flatten
theorem preTx_0 (x : Sg) : preTx x 0 = kNm x.k := by simp [preTx]
theorem preTx_succ (x : Sg) (j : Nat) : preTx x (j + 1) = preTx x j ++ [32] ++ Lib.itoa (x.at (j + 1)) := by
  unfold preTx; rw [List.range_succ]; simp
theorem preTx_6 (x : Sg) : preTx x 6 = segTx x := by
  rw [segTx_eq]; unfold preTx; simp [List.range_succ, Sg.at]
theorem preTx_len (x : Sg) (h : x.In) (j : Nat) : (preTx x j).length ≤ 7 + 23 * j := by
  induction j with
  | zero => rw [preTx_0]; have := kNm_len x.k; omega
  | succ j ih =>
    rw [preTx_succ]
    have := itoa_len (x.at (j + 1)) (h _).1 (h _).2
    simp; omega
/-- the names of the kinds, in their order -/
def kCells : Array Value := #[.string (tx (kNm 0)), .string (tx (kNm 1)), .string (tx (kNm 2)), .string (tx (kNm 3)), .string (tx (kNm 4))]
theorem s_l03Kinds (w : World) : Calls Tryz.prog 41 #[] w fun e w' => e = .returned (.slice (some ⟨w.heap.size, 0, none⟩) 5 5) ∧ w' = w.alloc (.cells kCells 9) := by
  go_enter Tryz.func41, Tryz.ntmps41
  go_wp2_with fail
  go_ret
  exact ⟨rfl, rfl⟩
end Go.Proofs.YtkhhoajoionlfaaGreatDoor
