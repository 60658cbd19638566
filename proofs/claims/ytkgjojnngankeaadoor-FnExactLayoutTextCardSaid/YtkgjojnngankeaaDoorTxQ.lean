/- The text of a segment, of the model: its five kinds (gen_txn.py). -/
import Derived.Test.YtkgjojnngankeaaDoorTxN
namespace Go.Proofs.YtkgjojnngankeaaDoor
open Go.RowKit Go.Shelf
set_option maxHeartbeats 4000000
set_option linter.unusedVariables false
set_option linter.unusedSimpArgs false
theorem s_Line0 (l r a b c d : Int) (h : sgB ⟨0, l, r, a, b, c, d⟩ = true) (hin : Sg.In ⟨0, l, r, a, b, c, d⟩) (w : World) :
    Calls Tryd.prog 16 #[.agg #[.int .i64 0, .int .i64 l, .int .i64 r, .int .i64 a, .int .i64 b, .int .i64 c, .int .i64 d]] w (Texts w (segTx ⟨0, l, r, a, b, c, d⟩)) := by
  have HB := Lib.hid (sg_bd _ h)
  have HIN := Lib.hid hin
  clear h hin
  have hk : kCells = #[.string (tx (kNm 0)), .string (tx (kNm 1)), .string (tx (kNm 2)), .string (tx (kNm 3)), .string (tx (kNm 4))] := rfl
  go_enter Tryd.func16, Tryd.ntmps16
  go_wp2_with fail
  go_region_with (go_at_call 31; refine (s_l03Kinds _).mono ?_; rw [hk]; rintro e w1 ⟨rfl, rfl⟩)
  all_goals
    go_wp2_with fail
    go_loopw [3, 5] (fun s i wr => ∃ k : Nat, k ≤ 6 ∧ i = .int .i64 k ∧ s = .string (tx (preTx ⟨0, l, r, a, b, c, d⟩ k)) ∧ (∀ j, j < 6 → wr.cell? ⟨w.heap.size + 1 + 1, j, none⟩ = some (.int .i64 ((Sg.mk 0 l r a b c d).at (j + 1)))) ∧ w.heap.size + 1 + 1 < wr.heap.size ∧ Later w wr) (fun _ i _ => 6 - (intOf i).toNat)
    case atStart =>
      refine ⟨0, by omega, rfl, by rw [preTx_0], ?_, by simp, (by repeat (first | (with_reducible exact Later.refl _) | (with_reducible exact Hid.out (by assumption)) | refine Later.alloc ?_ _ | refine Later.drewN ?_ _ | refine Later.drew ?_ | refine Later.trans ?_ (Hid.out (by assumption))))⟩
      intro j hj
      have h5 : j = 0 ∨ j = 1 ∨ j = 2 ∨ j = 3 ∨ j = 4 ∨ j = 5 := by omega
      rcases h5 with rfl | rfl | rfl | rfl | rfl | rfl
      all_goals
        (repeat with_reducible refine cell_drew _ _ _ ?_)
        exact cell_new _ _ _ _ _ _ (by simp) rfl
    case round =>
      obtain ⟨k, hk6, rfl, rfl, hc, hsz, hb⟩ := hrel
      have HC := Lib.hid hc; have B3 := Lib.hid hb
      clear hc hb
      by_cases h6 : k < 6
      · have h5 : k = 0 ∨ k = 1 ∨ k = 2 ∨ k = 3 ∨ k = 4 ∨ k = 5 := by omega
        clear h6 hk6
        rcases h5 with rfl | rfl | rfl | rfl | rfl | rfl
        · have c0 : _ = some (Value.int .i64 l) := HC.out 0 (by omega)
          have hz1 : (tx (preTx ⟨0, l, r, a, b, c, d⟩ 0)).size ≤ 1000 := by have := preTx_len ⟨0, l, r, a, b, c, d⟩ HIN.out 0; rw [tx_size]; omega
          have hz2 : (tx (Lib.itoa l)).size ≤ 1000 := by have := itoa_len l (HIN.out 1).1 (HIN.out 1).2; rw [tx_size]; omega
          have bd : -200000 ≤ l ∧ l ≤ 200000 := HB.out 1
          go_wp2_with fail
          refine (s_Number l (by omega) (by omega) _).mono ?_
          rintro e w4 ⟨rfl, hb4⟩
          have B4 := Lib.hid (Later.trans B3.out hb4)
          have C4 : Hid (∀ j, j < 6 → w4.cell? ⟨w.heap.size + 1 + 1, j, none⟩ = some (.int .i64 ((Sg.mk 0 l r a b c d).at (j + 1)))) := Lib.hid (fun j hj => by rw [Below.cell (p := ⟨w.heap.size + 1 + 1, j, none⟩) hb4 hsz]; exact HC.out j hj)
          have hsz4 : w.heap.size + 1 + 1 < w4.heap.size := by have := hb4.size; omega
          clear hb4 c0
          go_wp2_with fail
          go_roundw
          case rel =>
            refine ⟨1, by omega, rfl, ?_, C4.out, hsz4, B4.out⟩
            show Value.string (tx (preTx ⟨0, l, r, a, b, c, d⟩ 0) ++ tx [32] ++ tx (Lib.itoa l)) = _
            rw [tx_app, tx_app]
            exact congrArg (fun s => Value.string (tx s)) (preTx_succ ⟨0, l, r, a, b, c, d⟩ 0).symm
          case measure => simp [intOf]
        · have c1 : _ = some (Value.int .i64 r) := HC.out 1 (by omega)
          have hz1 : (tx (preTx ⟨0, l, r, a, b, c, d⟩ 1)).size ≤ 1000 := by have := preTx_len ⟨0, l, r, a, b, c, d⟩ HIN.out 1; rw [tx_size]; omega
          have hz2 : (tx (Lib.itoa r)).size ≤ 1000 := by have := itoa_len r (HIN.out 2).1 (HIN.out 2).2; rw [tx_size]; omega
          have bd : -200000 ≤ r ∧ r ≤ 200000 := HB.out 2
          go_wp2_with fail
          refine (s_Number r (by omega) (by omega) _).mono ?_
          rintro e w4 ⟨rfl, hb4⟩
          have B4 := Lib.hid (Later.trans B3.out hb4)
          have C4 : Hid (∀ j, j < 6 → w4.cell? ⟨w.heap.size + 1 + 1, j, none⟩ = some (.int .i64 ((Sg.mk 0 l r a b c d).at (j + 1)))) := Lib.hid (fun j hj => by rw [Below.cell (p := ⟨w.heap.size + 1 + 1, j, none⟩) hb4 hsz]; exact HC.out j hj)
          have hsz4 : w.heap.size + 1 + 1 < w4.heap.size := by have := hb4.size; omega
          clear hb4 c1
          go_wp2_with fail
          go_roundw
          case rel =>
            refine ⟨2, by omega, rfl, ?_, C4.out, hsz4, B4.out⟩
            show Value.string (tx (preTx ⟨0, l, r, a, b, c, d⟩ 1) ++ tx [32] ++ tx (Lib.itoa r)) = _
            rw [tx_app, tx_app]
            exact congrArg (fun s => Value.string (tx s)) (preTx_succ ⟨0, l, r, a, b, c, d⟩ 1).symm
          case measure => simp [intOf]
        · have c2 : _ = some (Value.int .i64 a) := HC.out 2 (by omega)
          have hz1 : (tx (preTx ⟨0, l, r, a, b, c, d⟩ 2)).size ≤ 1000 := by have := preTx_len ⟨0, l, r, a, b, c, d⟩ HIN.out 2; rw [tx_size]; omega
          have hz2 : (tx (Lib.itoa a)).size ≤ 1000 := by have := itoa_len a (HIN.out 3).1 (HIN.out 3).2; rw [tx_size]; omega
          have bd : -200000 ≤ a ∧ a ≤ 200000 := HB.out 3
          go_wp2_with fail
          refine (s_Number a (by omega) (by omega) _).mono ?_
          rintro e w4 ⟨rfl, hb4⟩
          have B4 := Lib.hid (Later.trans B3.out hb4)
          have C4 : Hid (∀ j, j < 6 → w4.cell? ⟨w.heap.size + 1 + 1, j, none⟩ = some (.int .i64 ((Sg.mk 0 l r a b c d).at (j + 1)))) := Lib.hid (fun j hj => by rw [Below.cell (p := ⟨w.heap.size + 1 + 1, j, none⟩) hb4 hsz]; exact HC.out j hj)
          have hsz4 : w.heap.size + 1 + 1 < w4.heap.size := by have := hb4.size; omega
          clear hb4 c2
          go_wp2_with fail
          go_roundw
          case rel =>
            refine ⟨3, by omega, rfl, ?_, C4.out, hsz4, B4.out⟩
            show Value.string (tx (preTx ⟨0, l, r, a, b, c, d⟩ 2) ++ tx [32] ++ tx (Lib.itoa a)) = _
            rw [tx_app, tx_app]
            exact congrArg (fun s => Value.string (tx s)) (preTx_succ ⟨0, l, r, a, b, c, d⟩ 2).symm
          case measure => simp [intOf]
        · have c3 : _ = some (Value.int .i64 b) := HC.out 3 (by omega)
          have hz1 : (tx (preTx ⟨0, l, r, a, b, c, d⟩ 3)).size ≤ 1000 := by have := preTx_len ⟨0, l, r, a, b, c, d⟩ HIN.out 3; rw [tx_size]; omega
          have hz2 : (tx (Lib.itoa b)).size ≤ 1000 := by have := itoa_len b (HIN.out 4).1 (HIN.out 4).2; rw [tx_size]; omega
          have bd : -200000 ≤ b ∧ b ≤ 200000 := HB.out 4
          go_wp2_with fail
          refine (s_Number b (by omega) (by omega) _).mono ?_
          rintro e w4 ⟨rfl, hb4⟩
          have B4 := Lib.hid (Later.trans B3.out hb4)
          have C4 : Hid (∀ j, j < 6 → w4.cell? ⟨w.heap.size + 1 + 1, j, none⟩ = some (.int .i64 ((Sg.mk 0 l r a b c d).at (j + 1)))) := Lib.hid (fun j hj => by rw [Below.cell (p := ⟨w.heap.size + 1 + 1, j, none⟩) hb4 hsz]; exact HC.out j hj)
          have hsz4 : w.heap.size + 1 + 1 < w4.heap.size := by have := hb4.size; omega
          clear hb4 c3
          go_wp2_with fail
          go_roundw
          case rel =>
            refine ⟨4, by omega, rfl, ?_, C4.out, hsz4, B4.out⟩
            show Value.string (tx (preTx ⟨0, l, r, a, b, c, d⟩ 3) ++ tx [32] ++ tx (Lib.itoa b)) = _
            rw [tx_app, tx_app]
            exact congrArg (fun s => Value.string (tx s)) (preTx_succ ⟨0, l, r, a, b, c, d⟩ 3).symm
          case measure => simp [intOf]
        · have c4 : _ = some (Value.int .i64 c) := HC.out 4 (by omega)
          have hz1 : (tx (preTx ⟨0, l, r, a, b, c, d⟩ 4)).size ≤ 1000 := by have := preTx_len ⟨0, l, r, a, b, c, d⟩ HIN.out 4; rw [tx_size]; omega
          have hz2 : (tx (Lib.itoa c)).size ≤ 1000 := by have := itoa_len c (HIN.out 5).1 (HIN.out 5).2; rw [tx_size]; omega
          have bd : -200000 ≤ c ∧ c ≤ 200000 := HB.out 5
          go_wp2_with fail
          refine (s_Number c (by omega) (by omega) _).mono ?_
          rintro e w4 ⟨rfl, hb4⟩
          have B4 := Lib.hid (Later.trans B3.out hb4)
          have C4 : Hid (∀ j, j < 6 → w4.cell? ⟨w.heap.size + 1 + 1, j, none⟩ = some (.int .i64 ((Sg.mk 0 l r a b c d).at (j + 1)))) := Lib.hid (fun j hj => by rw [Below.cell (p := ⟨w.heap.size + 1 + 1, j, none⟩) hb4 hsz]; exact HC.out j hj)
          have hsz4 : w.heap.size + 1 + 1 < w4.heap.size := by have := hb4.size; omega
          clear hb4 c4
          go_wp2_with fail
          go_roundw
          case rel =>
            refine ⟨5, by omega, rfl, ?_, C4.out, hsz4, B4.out⟩
            show Value.string (tx (preTx ⟨0, l, r, a, b, c, d⟩ 4) ++ tx [32] ++ tx (Lib.itoa c)) = _
            rw [tx_app, tx_app]
            exact congrArg (fun s => Value.string (tx s)) (preTx_succ ⟨0, l, r, a, b, c, d⟩ 4).symm
          case measure => simp [intOf]
        · have c5 : _ = some (Value.int .i64 d) := HC.out 5 (by omega)
          have hz1 : (tx (preTx ⟨0, l, r, a, b, c, d⟩ 5)).size ≤ 1000 := by have := preTx_len ⟨0, l, r, a, b, c, d⟩ HIN.out 5; rw [tx_size]; omega
          have hz2 : (tx (Lib.itoa d)).size ≤ 1000 := by have := itoa_len d (HIN.out 6).1 (HIN.out 6).2; rw [tx_size]; omega
          have bd : -200000 ≤ d ∧ d ≤ 200000 := HB.out 6
          go_wp2_with fail
          refine (s_Number d (by omega) (by omega) _).mono ?_
          rintro e w4 ⟨rfl, hb4⟩
          have B4 := Lib.hid (Later.trans B3.out hb4)
          have C4 : Hid (∀ j, j < 6 → w4.cell? ⟨w.heap.size + 1 + 1, j, none⟩ = some (.int .i64 ((Sg.mk 0 l r a b c d).at (j + 1)))) := Lib.hid (fun j hj => by rw [Below.cell (p := ⟨w.heap.size + 1 + 1, j, none⟩) hb4 hsz]; exact HC.out j hj)
          have hsz4 : w.heap.size + 1 + 1 < w4.heap.size := by have := hb4.size; omega
          clear hb4 c5
          go_wp2_with fail
          go_roundw
          case rel =>
            refine ⟨6, by omega, rfl, ?_, C4.out, hsz4, B4.out⟩
            show Value.string (tx (preTx ⟨0, l, r, a, b, c, d⟩ 5) ++ tx [32] ++ tx (Lib.itoa d)) = _
            rw [tx_app, tx_app]
            exact congrArg (fun s => Value.string (tx s)) (preTx_succ ⟨0, l, r, a, b, c, d⟩ 5).symm
          case measure => simp [intOf]
      · obtain rfl : k = 6 := by omega
        go_wp2_with fail
        go_ret
        exact ⟨congrArg (fun s => Ending.returned (.string (tx s))) (preTx_6 ⟨0, l, r, a, b, c, d⟩), B3.out⟩
theorem s_Line1 (l r a b c d : Int) (h : sgB ⟨1, l, r, a, b, c, d⟩ = true) (hin : Sg.In ⟨1, l, r, a, b, c, d⟩) (w : World) :
    Calls Tryd.prog 16 #[.agg #[.int .i64 1, .int .i64 l, .int .i64 r, .int .i64 a, .int .i64 b, .int .i64 c, .int .i64 d]] w (Texts w (segTx ⟨1, l, r, a, b, c, d⟩)) := by
  have HB := Lib.hid (sg_bd _ h)
  have HIN := Lib.hid hin
  clear h hin
  have hk : kCells = #[.string (tx (kNm 0)), .string (tx (kNm 1)), .string (tx (kNm 2)), .string (tx (kNm 3)), .string (tx (kNm 4))] := rfl
  go_enter Tryd.func16, Tryd.ntmps16
  go_wp2_with fail
  go_region_with (go_at_call 31; refine (s_l03Kinds _).mono ?_; rw [hk]; rintro e w1 ⟨rfl, rfl⟩)
  all_goals
    go_wp2_with fail
    go_loopw [3, 5] (fun s i wr => ∃ k : Nat, k ≤ 6 ∧ i = .int .i64 k ∧ s = .string (tx (preTx ⟨1, l, r, a, b, c, d⟩ k)) ∧ (∀ j, j < 6 → wr.cell? ⟨w.heap.size + 1 + 1, j, none⟩ = some (.int .i64 ((Sg.mk 1 l r a b c d).at (j + 1)))) ∧ w.heap.size + 1 + 1 < wr.heap.size ∧ Later w wr) (fun _ i _ => 6 - (intOf i).toNat)
    case atStart =>
      refine ⟨0, by omega, rfl, by rw [preTx_0], ?_, by simp, (by repeat (first | (with_reducible exact Later.refl _) | (with_reducible exact Hid.out (by assumption)) | refine Later.alloc ?_ _ | refine Later.drewN ?_ _ | refine Later.drew ?_ | refine Later.trans ?_ (Hid.out (by assumption))))⟩
      intro j hj
      have h5 : j = 0 ∨ j = 1 ∨ j = 2 ∨ j = 3 ∨ j = 4 ∨ j = 5 := by omega
      rcases h5 with rfl | rfl | rfl | rfl | rfl | rfl
      all_goals
        (repeat with_reducible refine cell_drew _ _ _ ?_)
        exact cell_new _ _ _ _ _ _ (by simp) rfl
    case round =>
      obtain ⟨k, hk6, rfl, rfl, hc, hsz, hb⟩ := hrel
      have HC := Lib.hid hc; have B3 := Lib.hid hb
      clear hc hb
      by_cases h6 : k < 6
      · have h5 : k = 0 ∨ k = 1 ∨ k = 2 ∨ k = 3 ∨ k = 4 ∨ k = 5 := by omega
        clear h6 hk6
        rcases h5 with rfl | rfl | rfl | rfl | rfl | rfl
        · have c0 : _ = some (Value.int .i64 l) := HC.out 0 (by omega)
          have hz1 : (tx (preTx ⟨1, l, r, a, b, c, d⟩ 0)).size ≤ 1000 := by have := preTx_len ⟨1, l, r, a, b, c, d⟩ HIN.out 0; rw [tx_size]; omega
          have hz2 : (tx (Lib.itoa l)).size ≤ 1000 := by have := itoa_len l (HIN.out 1).1 (HIN.out 1).2; rw [tx_size]; omega
          have bd : -200000 ≤ l ∧ l ≤ 200000 := HB.out 1
          go_wp2_with fail
          refine (s_Number l (by omega) (by omega) _).mono ?_
          rintro e w4 ⟨rfl, hb4⟩
          have B4 := Lib.hid (Later.trans B3.out hb4)
          have C4 : Hid (∀ j, j < 6 → w4.cell? ⟨w.heap.size + 1 + 1, j, none⟩ = some (.int .i64 ((Sg.mk 1 l r a b c d).at (j + 1)))) := Lib.hid (fun j hj => by rw [Below.cell (p := ⟨w.heap.size + 1 + 1, j, none⟩) hb4 hsz]; exact HC.out j hj)
          have hsz4 : w.heap.size + 1 + 1 < w4.heap.size := by have := hb4.size; omega
          clear hb4 c0
          go_wp2_with fail
          go_roundw
          case rel =>
            refine ⟨1, by omega, rfl, ?_, C4.out, hsz4, B4.out⟩
            show Value.string (tx (preTx ⟨1, l, r, a, b, c, d⟩ 0) ++ tx [32] ++ tx (Lib.itoa l)) = _
            rw [tx_app, tx_app]
            exact congrArg (fun s => Value.string (tx s)) (preTx_succ ⟨1, l, r, a, b, c, d⟩ 0).symm
          case measure => simp [intOf]
        · have c1 : _ = some (Value.int .i64 r) := HC.out 1 (by omega)
          have hz1 : (tx (preTx ⟨1, l, r, a, b, c, d⟩ 1)).size ≤ 1000 := by have := preTx_len ⟨1, l, r, a, b, c, d⟩ HIN.out 1; rw [tx_size]; omega
          have hz2 : (tx (Lib.itoa r)).size ≤ 1000 := by have := itoa_len r (HIN.out 2).1 (HIN.out 2).2; rw [tx_size]; omega
          have bd : -200000 ≤ r ∧ r ≤ 200000 := HB.out 2
          go_wp2_with fail
          refine (s_Number r (by omega) (by omega) _).mono ?_
          rintro e w4 ⟨rfl, hb4⟩
          have B4 := Lib.hid (Later.trans B3.out hb4)
          have C4 : Hid (∀ j, j < 6 → w4.cell? ⟨w.heap.size + 1 + 1, j, none⟩ = some (.int .i64 ((Sg.mk 1 l r a b c d).at (j + 1)))) := Lib.hid (fun j hj => by rw [Below.cell (p := ⟨w.heap.size + 1 + 1, j, none⟩) hb4 hsz]; exact HC.out j hj)
          have hsz4 : w.heap.size + 1 + 1 < w4.heap.size := by have := hb4.size; omega
          clear hb4 c1
          go_wp2_with fail
          go_roundw
          case rel =>
            refine ⟨2, by omega, rfl, ?_, C4.out, hsz4, B4.out⟩
            show Value.string (tx (preTx ⟨1, l, r, a, b, c, d⟩ 1) ++ tx [32] ++ tx (Lib.itoa r)) = _
            rw [tx_app, tx_app]
            exact congrArg (fun s => Value.string (tx s)) (preTx_succ ⟨1, l, r, a, b, c, d⟩ 1).symm
          case measure => simp [intOf]
        · have c2 : _ = some (Value.int .i64 a) := HC.out 2 (by omega)
          have hz1 : (tx (preTx ⟨1, l, r, a, b, c, d⟩ 2)).size ≤ 1000 := by have := preTx_len ⟨1, l, r, a, b, c, d⟩ HIN.out 2; rw [tx_size]; omega
          have hz2 : (tx (Lib.itoa a)).size ≤ 1000 := by have := itoa_len a (HIN.out 3).1 (HIN.out 3).2; rw [tx_size]; omega
          have bd : -200000 ≤ a ∧ a ≤ 200000 := HB.out 3
          go_wp2_with fail
          refine (s_Number a (by omega) (by omega) _).mono ?_
          rintro e w4 ⟨rfl, hb4⟩
          have B4 := Lib.hid (Later.trans B3.out hb4)
          have C4 : Hid (∀ j, j < 6 → w4.cell? ⟨w.heap.size + 1 + 1, j, none⟩ = some (.int .i64 ((Sg.mk 1 l r a b c d).at (j + 1)))) := Lib.hid (fun j hj => by rw [Below.cell (p := ⟨w.heap.size + 1 + 1, j, none⟩) hb4 hsz]; exact HC.out j hj)
          have hsz4 : w.heap.size + 1 + 1 < w4.heap.size := by have := hb4.size; omega
          clear hb4 c2
          go_wp2_with fail
          go_roundw
          case rel =>
            refine ⟨3, by omega, rfl, ?_, C4.out, hsz4, B4.out⟩
            show Value.string (tx (preTx ⟨1, l, r, a, b, c, d⟩ 2) ++ tx [32] ++ tx (Lib.itoa a)) = _
            rw [tx_app, tx_app]
            exact congrArg (fun s => Value.string (tx s)) (preTx_succ ⟨1, l, r, a, b, c, d⟩ 2).symm
          case measure => simp [intOf]
        · have c3 : _ = some (Value.int .i64 b) := HC.out 3 (by omega)
          have hz1 : (tx (preTx ⟨1, l, r, a, b, c, d⟩ 3)).size ≤ 1000 := by have := preTx_len ⟨1, l, r, a, b, c, d⟩ HIN.out 3; rw [tx_size]; omega
          have hz2 : (tx (Lib.itoa b)).size ≤ 1000 := by have := itoa_len b (HIN.out 4).1 (HIN.out 4).2; rw [tx_size]; omega
          have bd : -200000 ≤ b ∧ b ≤ 200000 := HB.out 4
          go_wp2_with fail
          refine (s_Number b (by omega) (by omega) _).mono ?_
          rintro e w4 ⟨rfl, hb4⟩
          have B4 := Lib.hid (Later.trans B3.out hb4)
          have C4 : Hid (∀ j, j < 6 → w4.cell? ⟨w.heap.size + 1 + 1, j, none⟩ = some (.int .i64 ((Sg.mk 1 l r a b c d).at (j + 1)))) := Lib.hid (fun j hj => by rw [Below.cell (p := ⟨w.heap.size + 1 + 1, j, none⟩) hb4 hsz]; exact HC.out j hj)
          have hsz4 : w.heap.size + 1 + 1 < w4.heap.size := by have := hb4.size; omega
          clear hb4 c3
          go_wp2_with fail
          go_roundw
          case rel =>
            refine ⟨4, by omega, rfl, ?_, C4.out, hsz4, B4.out⟩
            show Value.string (tx (preTx ⟨1, l, r, a, b, c, d⟩ 3) ++ tx [32] ++ tx (Lib.itoa b)) = _
            rw [tx_app, tx_app]
            exact congrArg (fun s => Value.string (tx s)) (preTx_succ ⟨1, l, r, a, b, c, d⟩ 3).symm
          case measure => simp [intOf]
        · have c4 : _ = some (Value.int .i64 c) := HC.out 4 (by omega)
          have hz1 : (tx (preTx ⟨1, l, r, a, b, c, d⟩ 4)).size ≤ 1000 := by have := preTx_len ⟨1, l, r, a, b, c, d⟩ HIN.out 4; rw [tx_size]; omega
          have hz2 : (tx (Lib.itoa c)).size ≤ 1000 := by have := itoa_len c (HIN.out 5).1 (HIN.out 5).2; rw [tx_size]; omega
          have bd : -200000 ≤ c ∧ c ≤ 200000 := HB.out 5
          go_wp2_with fail
          refine (s_Number c (by omega) (by omega) _).mono ?_
          rintro e w4 ⟨rfl, hb4⟩
          have B4 := Lib.hid (Later.trans B3.out hb4)
          have C4 : Hid (∀ j, j < 6 → w4.cell? ⟨w.heap.size + 1 + 1, j, none⟩ = some (.int .i64 ((Sg.mk 1 l r a b c d).at (j + 1)))) := Lib.hid (fun j hj => by rw [Below.cell (p := ⟨w.heap.size + 1 + 1, j, none⟩) hb4 hsz]; exact HC.out j hj)
          have hsz4 : w.heap.size + 1 + 1 < w4.heap.size := by have := hb4.size; omega
          clear hb4 c4
          go_wp2_with fail
          go_roundw
          case rel =>
            refine ⟨5, by omega, rfl, ?_, C4.out, hsz4, B4.out⟩
            show Value.string (tx (preTx ⟨1, l, r, a, b, c, d⟩ 4) ++ tx [32] ++ tx (Lib.itoa c)) = _
            rw [tx_app, tx_app]
            exact congrArg (fun s => Value.string (tx s)) (preTx_succ ⟨1, l, r, a, b, c, d⟩ 4).symm
          case measure => simp [intOf]
        · have c5 : _ = some (Value.int .i64 d) := HC.out 5 (by omega)
          have hz1 : (tx (preTx ⟨1, l, r, a, b, c, d⟩ 5)).size ≤ 1000 := by have := preTx_len ⟨1, l, r, a, b, c, d⟩ HIN.out 5; rw [tx_size]; omega
          have hz2 : (tx (Lib.itoa d)).size ≤ 1000 := by have := itoa_len d (HIN.out 6).1 (HIN.out 6).2; rw [tx_size]; omega
          have bd : -200000 ≤ d ∧ d ≤ 200000 := HB.out 6
          go_wp2_with fail
          refine (s_Number d (by omega) (by omega) _).mono ?_
          rintro e w4 ⟨rfl, hb4⟩
          have B4 := Lib.hid (Later.trans B3.out hb4)
          have C4 : Hid (∀ j, j < 6 → w4.cell? ⟨w.heap.size + 1 + 1, j, none⟩ = some (.int .i64 ((Sg.mk 1 l r a b c d).at (j + 1)))) := Lib.hid (fun j hj => by rw [Below.cell (p := ⟨w.heap.size + 1 + 1, j, none⟩) hb4 hsz]; exact HC.out j hj)
          have hsz4 : w.heap.size + 1 + 1 < w4.heap.size := by have := hb4.size; omega
          clear hb4 c5
          go_wp2_with fail
          go_roundw
          case rel =>
            refine ⟨6, by omega, rfl, ?_, C4.out, hsz4, B4.out⟩
            show Value.string (tx (preTx ⟨1, l, r, a, b, c, d⟩ 5) ++ tx [32] ++ tx (Lib.itoa d)) = _
            rw [tx_app, tx_app]
            exact congrArg (fun s => Value.string (tx s)) (preTx_succ ⟨1, l, r, a, b, c, d⟩ 5).symm
          case measure => simp [intOf]
      · obtain rfl : k = 6 := by omega
        go_wp2_with fail
        go_ret
        exact ⟨congrArg (fun s => Ending.returned (.string (tx s))) (preTx_6 ⟨1, l, r, a, b, c, d⟩), B3.out⟩
theorem s_Line2 (l r a b c d : Int) (h : sgB ⟨2, l, r, a, b, c, d⟩ = true) (hin : Sg.In ⟨2, l, r, a, b, c, d⟩) (w : World) :
    Calls Tryd.prog 16 #[.agg #[.int .i64 2, .int .i64 l, .int .i64 r, .int .i64 a, .int .i64 b, .int .i64 c, .int .i64 d]] w (Texts w (segTx ⟨2, l, r, a, b, c, d⟩)) := by
  have HB := Lib.hid (sg_bd _ h)
  have HIN := Lib.hid hin
  clear h hin
  have hk : kCells = #[.string (tx (kNm 0)), .string (tx (kNm 1)), .string (tx (kNm 2)), .string (tx (kNm 3)), .string (tx (kNm 4))] := rfl
  go_enter Tryd.func16, Tryd.ntmps16
  go_wp2_with fail
  go_region_with (go_at_call 31; refine (s_l03Kinds _).mono ?_; rw [hk]; rintro e w1 ⟨rfl, rfl⟩)
  all_goals
    go_wp2_with fail
    go_loopw [3, 5] (fun s i wr => ∃ k : Nat, k ≤ 6 ∧ i = .int .i64 k ∧ s = .string (tx (preTx ⟨2, l, r, a, b, c, d⟩ k)) ∧ (∀ j, j < 6 → wr.cell? ⟨w.heap.size + 1 + 1, j, none⟩ = some (.int .i64 ((Sg.mk 2 l r a b c d).at (j + 1)))) ∧ w.heap.size + 1 + 1 < wr.heap.size ∧ Later w wr) (fun _ i _ => 6 - (intOf i).toNat)
    case atStart =>
      refine ⟨0, by omega, rfl, by rw [preTx_0], ?_, by simp, (by repeat (first | (with_reducible exact Later.refl _) | (with_reducible exact Hid.out (by assumption)) | refine Later.alloc ?_ _ | refine Later.drewN ?_ _ | refine Later.drew ?_ | refine Later.trans ?_ (Hid.out (by assumption))))⟩
      intro j hj
      have h5 : j = 0 ∨ j = 1 ∨ j = 2 ∨ j = 3 ∨ j = 4 ∨ j = 5 := by omega
      rcases h5 with rfl | rfl | rfl | rfl | rfl | rfl
      all_goals
        (repeat with_reducible refine cell_drew _ _ _ ?_)
        exact cell_new _ _ _ _ _ _ (by simp) rfl
    case round =>
      obtain ⟨k, hk6, rfl, rfl, hc, hsz, hb⟩ := hrel
      have HC := Lib.hid hc; have B3 := Lib.hid hb
      clear hc hb
      by_cases h6 : k < 6
      · have h5 : k = 0 ∨ k = 1 ∨ k = 2 ∨ k = 3 ∨ k = 4 ∨ k = 5 := by omega
        clear h6 hk6
        rcases h5 with rfl | rfl | rfl | rfl | rfl | rfl
        · have c0 : _ = some (Value.int .i64 l) := HC.out 0 (by omega)
          have hz1 : (tx (preTx ⟨2, l, r, a, b, c, d⟩ 0)).size ≤ 1000 := by have := preTx_len ⟨2, l, r, a, b, c, d⟩ HIN.out 0; rw [tx_size]; omega
          have hz2 : (tx (Lib.itoa l)).size ≤ 1000 := by have := itoa_len l (HIN.out 1).1 (HIN.out 1).2; rw [tx_size]; omega
          have bd : -200000 ≤ l ∧ l ≤ 200000 := HB.out 1
          go_wp2_with fail
          refine (s_Number l (by omega) (by omega) _).mono ?_
          rintro e w4 ⟨rfl, hb4⟩
          have B4 := Lib.hid (Later.trans B3.out hb4)
          have C4 : Hid (∀ j, j < 6 → w4.cell? ⟨w.heap.size + 1 + 1, j, none⟩ = some (.int .i64 ((Sg.mk 2 l r a b c d).at (j + 1)))) := Lib.hid (fun j hj => by rw [Below.cell (p := ⟨w.heap.size + 1 + 1, j, none⟩) hb4 hsz]; exact HC.out j hj)
          have hsz4 : w.heap.size + 1 + 1 < w4.heap.size := by have := hb4.size; omega
          clear hb4 c0
          go_wp2_with fail
          go_roundw
          case rel =>
            refine ⟨1, by omega, rfl, ?_, C4.out, hsz4, B4.out⟩
            show Value.string (tx (preTx ⟨2, l, r, a, b, c, d⟩ 0) ++ tx [32] ++ tx (Lib.itoa l)) = _
            rw [tx_app, tx_app]
            exact congrArg (fun s => Value.string (tx s)) (preTx_succ ⟨2, l, r, a, b, c, d⟩ 0).symm
          case measure => simp [intOf]
        · have c1 : _ = some (Value.int .i64 r) := HC.out 1 (by omega)
          have hz1 : (tx (preTx ⟨2, l, r, a, b, c, d⟩ 1)).size ≤ 1000 := by have := preTx_len ⟨2, l, r, a, b, c, d⟩ HIN.out 1; rw [tx_size]; omega
          have hz2 : (tx (Lib.itoa r)).size ≤ 1000 := by have := itoa_len r (HIN.out 2).1 (HIN.out 2).2; rw [tx_size]; omega
          have bd : -200000 ≤ r ∧ r ≤ 200000 := HB.out 2
          go_wp2_with fail
          refine (s_Number r (by omega) (by omega) _).mono ?_
          rintro e w4 ⟨rfl, hb4⟩
          have B4 := Lib.hid (Later.trans B3.out hb4)
          have C4 : Hid (∀ j, j < 6 → w4.cell? ⟨w.heap.size + 1 + 1, j, none⟩ = some (.int .i64 ((Sg.mk 2 l r a b c d).at (j + 1)))) := Lib.hid (fun j hj => by rw [Below.cell (p := ⟨w.heap.size + 1 + 1, j, none⟩) hb4 hsz]; exact HC.out j hj)
          have hsz4 : w.heap.size + 1 + 1 < w4.heap.size := by have := hb4.size; omega
          clear hb4 c1
          go_wp2_with fail
          go_roundw
          case rel =>
            refine ⟨2, by omega, rfl, ?_, C4.out, hsz4, B4.out⟩
            show Value.string (tx (preTx ⟨2, l, r, a, b, c, d⟩ 1) ++ tx [32] ++ tx (Lib.itoa r)) = _
            rw [tx_app, tx_app]
            exact congrArg (fun s => Value.string (tx s)) (preTx_succ ⟨2, l, r, a, b, c, d⟩ 1).symm
          case measure => simp [intOf]
        · have c2 : _ = some (Value.int .i64 a) := HC.out 2 (by omega)
          have hz1 : (tx (preTx ⟨2, l, r, a, b, c, d⟩ 2)).size ≤ 1000 := by have := preTx_len ⟨2, l, r, a, b, c, d⟩ HIN.out 2; rw [tx_size]; omega
          have hz2 : (tx (Lib.itoa a)).size ≤ 1000 := by have := itoa_len a (HIN.out 3).1 (HIN.out 3).2; rw [tx_size]; omega
          have bd : -200000 ≤ a ∧ a ≤ 200000 := HB.out 3
          go_wp2_with fail
          refine (s_Number a (by omega) (by omega) _).mono ?_
          rintro e w4 ⟨rfl, hb4⟩
          have B4 := Lib.hid (Later.trans B3.out hb4)
          have C4 : Hid (∀ j, j < 6 → w4.cell? ⟨w.heap.size + 1 + 1, j, none⟩ = some (.int .i64 ((Sg.mk 2 l r a b c d).at (j + 1)))) := Lib.hid (fun j hj => by rw [Below.cell (p := ⟨w.heap.size + 1 + 1, j, none⟩) hb4 hsz]; exact HC.out j hj)
          have hsz4 : w.heap.size + 1 + 1 < w4.heap.size := by have := hb4.size; omega
          clear hb4 c2
          go_wp2_with fail
          go_roundw
          case rel =>
            refine ⟨3, by omega, rfl, ?_, C4.out, hsz4, B4.out⟩
            show Value.string (tx (preTx ⟨2, l, r, a, b, c, d⟩ 2) ++ tx [32] ++ tx (Lib.itoa a)) = _
            rw [tx_app, tx_app]
            exact congrArg (fun s => Value.string (tx s)) (preTx_succ ⟨2, l, r, a, b, c, d⟩ 2).symm
          case measure => simp [intOf]
        · have c3 : _ = some (Value.int .i64 b) := HC.out 3 (by omega)
          have hz1 : (tx (preTx ⟨2, l, r, a, b, c, d⟩ 3)).size ≤ 1000 := by have := preTx_len ⟨2, l, r, a, b, c, d⟩ HIN.out 3; rw [tx_size]; omega
          have hz2 : (tx (Lib.itoa b)).size ≤ 1000 := by have := itoa_len b (HIN.out 4).1 (HIN.out 4).2; rw [tx_size]; omega
          have bd : -200000 ≤ b ∧ b ≤ 200000 := HB.out 4
          go_wp2_with fail
          refine (s_Number b (by omega) (by omega) _).mono ?_
          rintro e w4 ⟨rfl, hb4⟩
          have B4 := Lib.hid (Later.trans B3.out hb4)
          have C4 : Hid (∀ j, j < 6 → w4.cell? ⟨w.heap.size + 1 + 1, j, none⟩ = some (.int .i64 ((Sg.mk 2 l r a b c d).at (j + 1)))) := Lib.hid (fun j hj => by rw [Below.cell (p := ⟨w.heap.size + 1 + 1, j, none⟩) hb4 hsz]; exact HC.out j hj)
          have hsz4 : w.heap.size + 1 + 1 < w4.heap.size := by have := hb4.size; omega
          clear hb4 c3
          go_wp2_with fail
          go_roundw
          case rel =>
            refine ⟨4, by omega, rfl, ?_, C4.out, hsz4, B4.out⟩
            show Value.string (tx (preTx ⟨2, l, r, a, b, c, d⟩ 3) ++ tx [32] ++ tx (Lib.itoa b)) = _
            rw [tx_app, tx_app]
            exact congrArg (fun s => Value.string (tx s)) (preTx_succ ⟨2, l, r, a, b, c, d⟩ 3).symm
          case measure => simp [intOf]
        · have c4 : _ = some (Value.int .i64 c) := HC.out 4 (by omega)
          have hz1 : (tx (preTx ⟨2, l, r, a, b, c, d⟩ 4)).size ≤ 1000 := by have := preTx_len ⟨2, l, r, a, b, c, d⟩ HIN.out 4; rw [tx_size]; omega
          have hz2 : (tx (Lib.itoa c)).size ≤ 1000 := by have := itoa_len c (HIN.out 5).1 (HIN.out 5).2; rw [tx_size]; omega
          have bd : -200000 ≤ c ∧ c ≤ 200000 := HB.out 5
          go_wp2_with fail
          refine (s_Number c (by omega) (by omega) _).mono ?_
          rintro e w4 ⟨rfl, hb4⟩
          have B4 := Lib.hid (Later.trans B3.out hb4)
          have C4 : Hid (∀ j, j < 6 → w4.cell? ⟨w.heap.size + 1 + 1, j, none⟩ = some (.int .i64 ((Sg.mk 2 l r a b c d).at (j + 1)))) := Lib.hid (fun j hj => by rw [Below.cell (p := ⟨w.heap.size + 1 + 1, j, none⟩) hb4 hsz]; exact HC.out j hj)
          have hsz4 : w.heap.size + 1 + 1 < w4.heap.size := by have := hb4.size; omega
          clear hb4 c4
          go_wp2_with fail
          go_roundw
          case rel =>
            refine ⟨5, by omega, rfl, ?_, C4.out, hsz4, B4.out⟩
            show Value.string (tx (preTx ⟨2, l, r, a, b, c, d⟩ 4) ++ tx [32] ++ tx (Lib.itoa c)) = _
            rw [tx_app, tx_app]
            exact congrArg (fun s => Value.string (tx s)) (preTx_succ ⟨2, l, r, a, b, c, d⟩ 4).symm
          case measure => simp [intOf]
        · have c5 : _ = some (Value.int .i64 d) := HC.out 5 (by omega)
          have hz1 : (tx (preTx ⟨2, l, r, a, b, c, d⟩ 5)).size ≤ 1000 := by have := preTx_len ⟨2, l, r, a, b, c, d⟩ HIN.out 5; rw [tx_size]; omega
          have hz2 : (tx (Lib.itoa d)).size ≤ 1000 := by have := itoa_len d (HIN.out 6).1 (HIN.out 6).2; rw [tx_size]; omega
          have bd : -200000 ≤ d ∧ d ≤ 200000 := HB.out 6
          go_wp2_with fail
          refine (s_Number d (by omega) (by omega) _).mono ?_
          rintro e w4 ⟨rfl, hb4⟩
          have B4 := Lib.hid (Later.trans B3.out hb4)
          have C4 : Hid (∀ j, j < 6 → w4.cell? ⟨w.heap.size + 1 + 1, j, none⟩ = some (.int .i64 ((Sg.mk 2 l r a b c d).at (j + 1)))) := Lib.hid (fun j hj => by rw [Below.cell (p := ⟨w.heap.size + 1 + 1, j, none⟩) hb4 hsz]; exact HC.out j hj)
          have hsz4 : w.heap.size + 1 + 1 < w4.heap.size := by have := hb4.size; omega
          clear hb4 c5
          go_wp2_with fail
          go_roundw
          case rel =>
            refine ⟨6, by omega, rfl, ?_, C4.out, hsz4, B4.out⟩
            show Value.string (tx (preTx ⟨2, l, r, a, b, c, d⟩ 5) ++ tx [32] ++ tx (Lib.itoa d)) = _
            rw [tx_app, tx_app]
            exact congrArg (fun s => Value.string (tx s)) (preTx_succ ⟨2, l, r, a, b, c, d⟩ 5).symm
          case measure => simp [intOf]
      · obtain rfl : k = 6 := by omega
        go_wp2_with fail
        go_ret
        exact ⟨congrArg (fun s => Ending.returned (.string (tx s))) (preTx_6 ⟨2, l, r, a, b, c, d⟩), B3.out⟩
theorem s_Line3 (l r a b c d : Int) (h : sgB ⟨3, l, r, a, b, c, d⟩ = true) (hin : Sg.In ⟨3, l, r, a, b, c, d⟩) (w : World) :
    Calls Tryd.prog 16 #[.agg #[.int .i64 3, .int .i64 l, .int .i64 r, .int .i64 a, .int .i64 b, .int .i64 c, .int .i64 d]] w (Texts w (segTx ⟨3, l, r, a, b, c, d⟩)) := by
  have HB := Lib.hid (sg_bd _ h)
  have HIN := Lib.hid hin
  clear h hin
  have hk : kCells = #[.string (tx (kNm 0)), .string (tx (kNm 1)), .string (tx (kNm 2)), .string (tx (kNm 3)), .string (tx (kNm 4))] := rfl
  go_enter Tryd.func16, Tryd.ntmps16
  go_wp2_with fail
  go_region_with (go_at_call 31; refine (s_l03Kinds _).mono ?_; rw [hk]; rintro e w1 ⟨rfl, rfl⟩)
  all_goals
    go_wp2_with fail
    go_loopw [3, 5] (fun s i wr => ∃ k : Nat, k ≤ 6 ∧ i = .int .i64 k ∧ s = .string (tx (preTx ⟨3, l, r, a, b, c, d⟩ k)) ∧ (∀ j, j < 6 → wr.cell? ⟨w.heap.size + 1 + 1, j, none⟩ = some (.int .i64 ((Sg.mk 3 l r a b c d).at (j + 1)))) ∧ w.heap.size + 1 + 1 < wr.heap.size ∧ Later w wr) (fun _ i _ => 6 - (intOf i).toNat)
    case atStart =>
      refine ⟨0, by omega, rfl, by rw [preTx_0], ?_, by simp, (by repeat (first | (with_reducible exact Later.refl _) | (with_reducible exact Hid.out (by assumption)) | refine Later.alloc ?_ _ | refine Later.drewN ?_ _ | refine Later.drew ?_ | refine Later.trans ?_ (Hid.out (by assumption))))⟩
      intro j hj
      have h5 : j = 0 ∨ j = 1 ∨ j = 2 ∨ j = 3 ∨ j = 4 ∨ j = 5 := by omega
      rcases h5 with rfl | rfl | rfl | rfl | rfl | rfl
      all_goals
        (repeat with_reducible refine cell_drew _ _ _ ?_)
        exact cell_new _ _ _ _ _ _ (by simp) rfl
    case round =>
      obtain ⟨k, hk6, rfl, rfl, hc, hsz, hb⟩ := hrel
      have HC := Lib.hid hc; have B3 := Lib.hid hb
      clear hc hb
      by_cases h6 : k < 6
      · have h5 : k = 0 ∨ k = 1 ∨ k = 2 ∨ k = 3 ∨ k = 4 ∨ k = 5 := by omega
        clear h6 hk6
        rcases h5 with rfl | rfl | rfl | rfl | rfl | rfl
        · have c0 : _ = some (Value.int .i64 l) := HC.out 0 (by omega)
          have hz1 : (tx (preTx ⟨3, l, r, a, b, c, d⟩ 0)).size ≤ 1000 := by have := preTx_len ⟨3, l, r, a, b, c, d⟩ HIN.out 0; rw [tx_size]; omega
          have hz2 : (tx (Lib.itoa l)).size ≤ 1000 := by have := itoa_len l (HIN.out 1).1 (HIN.out 1).2; rw [tx_size]; omega
          have bd : -200000 ≤ l ∧ l ≤ 200000 := HB.out 1
          go_wp2_with fail
          refine (s_Number l (by omega) (by omega) _).mono ?_
          rintro e w4 ⟨rfl, hb4⟩
          have B4 := Lib.hid (Later.trans B3.out hb4)
          have C4 : Hid (∀ j, j < 6 → w4.cell? ⟨w.heap.size + 1 + 1, j, none⟩ = some (.int .i64 ((Sg.mk 3 l r a b c d).at (j + 1)))) := Lib.hid (fun j hj => by rw [Below.cell (p := ⟨w.heap.size + 1 + 1, j, none⟩) hb4 hsz]; exact HC.out j hj)
          have hsz4 : w.heap.size + 1 + 1 < w4.heap.size := by have := hb4.size; omega
          clear hb4 c0
          go_wp2_with fail
          go_roundw
          case rel =>
            refine ⟨1, by omega, rfl, ?_, C4.out, hsz4, B4.out⟩
            show Value.string (tx (preTx ⟨3, l, r, a, b, c, d⟩ 0) ++ tx [32] ++ tx (Lib.itoa l)) = _
            rw [tx_app, tx_app]
            exact congrArg (fun s => Value.string (tx s)) (preTx_succ ⟨3, l, r, a, b, c, d⟩ 0).symm
          case measure => simp [intOf]
        · have c1 : _ = some (Value.int .i64 r) := HC.out 1 (by omega)
          have hz1 : (tx (preTx ⟨3, l, r, a, b, c, d⟩ 1)).size ≤ 1000 := by have := preTx_len ⟨3, l, r, a, b, c, d⟩ HIN.out 1; rw [tx_size]; omega
          have hz2 : (tx (Lib.itoa r)).size ≤ 1000 := by have := itoa_len r (HIN.out 2).1 (HIN.out 2).2; rw [tx_size]; omega
          have bd : -200000 ≤ r ∧ r ≤ 200000 := HB.out 2
          go_wp2_with fail
          refine (s_Number r (by omega) (by omega) _).mono ?_
          rintro e w4 ⟨rfl, hb4⟩
          have B4 := Lib.hid (Later.trans B3.out hb4)
          have C4 : Hid (∀ j, j < 6 → w4.cell? ⟨w.heap.size + 1 + 1, j, none⟩ = some (.int .i64 ((Sg.mk 3 l r a b c d).at (j + 1)))) := Lib.hid (fun j hj => by rw [Below.cell (p := ⟨w.heap.size + 1 + 1, j, none⟩) hb4 hsz]; exact HC.out j hj)
          have hsz4 : w.heap.size + 1 + 1 < w4.heap.size := by have := hb4.size; omega
          clear hb4 c1
          go_wp2_with fail
          go_roundw
          case rel =>
            refine ⟨2, by omega, rfl, ?_, C4.out, hsz4, B4.out⟩
            show Value.string (tx (preTx ⟨3, l, r, a, b, c, d⟩ 1) ++ tx [32] ++ tx (Lib.itoa r)) = _
            rw [tx_app, tx_app]
            exact congrArg (fun s => Value.string (tx s)) (preTx_succ ⟨3, l, r, a, b, c, d⟩ 1).symm
          case measure => simp [intOf]
        · have c2 : _ = some (Value.int .i64 a) := HC.out 2 (by omega)
          have hz1 : (tx (preTx ⟨3, l, r, a, b, c, d⟩ 2)).size ≤ 1000 := by have := preTx_len ⟨3, l, r, a, b, c, d⟩ HIN.out 2; rw [tx_size]; omega
          have hz2 : (tx (Lib.itoa a)).size ≤ 1000 := by have := itoa_len a (HIN.out 3).1 (HIN.out 3).2; rw [tx_size]; omega
          have bd : -200000 ≤ a ∧ a ≤ 200000 := HB.out 3
          go_wp2_with fail
          refine (s_Number a (by omega) (by omega) _).mono ?_
          rintro e w4 ⟨rfl, hb4⟩
          have B4 := Lib.hid (Later.trans B3.out hb4)
          have C4 : Hid (∀ j, j < 6 → w4.cell? ⟨w.heap.size + 1 + 1, j, none⟩ = some (.int .i64 ((Sg.mk 3 l r a b c d).at (j + 1)))) := Lib.hid (fun j hj => by rw [Below.cell (p := ⟨w.heap.size + 1 + 1, j, none⟩) hb4 hsz]; exact HC.out j hj)
          have hsz4 : w.heap.size + 1 + 1 < w4.heap.size := by have := hb4.size; omega
          clear hb4 c2
          go_wp2_with fail
          go_roundw
          case rel =>
            refine ⟨3, by omega, rfl, ?_, C4.out, hsz4, B4.out⟩
            show Value.string (tx (preTx ⟨3, l, r, a, b, c, d⟩ 2) ++ tx [32] ++ tx (Lib.itoa a)) = _
            rw [tx_app, tx_app]
            exact congrArg (fun s => Value.string (tx s)) (preTx_succ ⟨3, l, r, a, b, c, d⟩ 2).symm
          case measure => simp [intOf]
        · have c3 : _ = some (Value.int .i64 b) := HC.out 3 (by omega)
          have hz1 : (tx (preTx ⟨3, l, r, a, b, c, d⟩ 3)).size ≤ 1000 := by have := preTx_len ⟨3, l, r, a, b, c, d⟩ HIN.out 3; rw [tx_size]; omega
          have hz2 : (tx (Lib.itoa b)).size ≤ 1000 := by have := itoa_len b (HIN.out 4).1 (HIN.out 4).2; rw [tx_size]; omega
          have bd : -200000 ≤ b ∧ b ≤ 200000 := HB.out 4
          go_wp2_with fail
          refine (s_Number b (by omega) (by omega) _).mono ?_
          rintro e w4 ⟨rfl, hb4⟩
          have B4 := Lib.hid (Later.trans B3.out hb4)
          have C4 : Hid (∀ j, j < 6 → w4.cell? ⟨w.heap.size + 1 + 1, j, none⟩ = some (.int .i64 ((Sg.mk 3 l r a b c d).at (j + 1)))) := Lib.hid (fun j hj => by rw [Below.cell (p := ⟨w.heap.size + 1 + 1, j, none⟩) hb4 hsz]; exact HC.out j hj)
          have hsz4 : w.heap.size + 1 + 1 < w4.heap.size := by have := hb4.size; omega
          clear hb4 c3
          go_wp2_with fail
          go_roundw
          case rel =>
            refine ⟨4, by omega, rfl, ?_, C4.out, hsz4, B4.out⟩
            show Value.string (tx (preTx ⟨3, l, r, a, b, c, d⟩ 3) ++ tx [32] ++ tx (Lib.itoa b)) = _
            rw [tx_app, tx_app]
            exact congrArg (fun s => Value.string (tx s)) (preTx_succ ⟨3, l, r, a, b, c, d⟩ 3).symm
          case measure => simp [intOf]
        · have c4 : _ = some (Value.int .i64 c) := HC.out 4 (by omega)
          have hz1 : (tx (preTx ⟨3, l, r, a, b, c, d⟩ 4)).size ≤ 1000 := by have := preTx_len ⟨3, l, r, a, b, c, d⟩ HIN.out 4; rw [tx_size]; omega
          have hz2 : (tx (Lib.itoa c)).size ≤ 1000 := by have := itoa_len c (HIN.out 5).1 (HIN.out 5).2; rw [tx_size]; omega
          have bd : -200000 ≤ c ∧ c ≤ 200000 := HB.out 5
          go_wp2_with fail
          refine (s_Number c (by omega) (by omega) _).mono ?_
          rintro e w4 ⟨rfl, hb4⟩
          have B4 := Lib.hid (Later.trans B3.out hb4)
          have C4 : Hid (∀ j, j < 6 → w4.cell? ⟨w.heap.size + 1 + 1, j, none⟩ = some (.int .i64 ((Sg.mk 3 l r a b c d).at (j + 1)))) := Lib.hid (fun j hj => by rw [Below.cell (p := ⟨w.heap.size + 1 + 1, j, none⟩) hb4 hsz]; exact HC.out j hj)
          have hsz4 : w.heap.size + 1 + 1 < w4.heap.size := by have := hb4.size; omega
          clear hb4 c4
          go_wp2_with fail
          go_roundw
          case rel =>
            refine ⟨5, by omega, rfl, ?_, C4.out, hsz4, B4.out⟩
            show Value.string (tx (preTx ⟨3, l, r, a, b, c, d⟩ 4) ++ tx [32] ++ tx (Lib.itoa c)) = _
            rw [tx_app, tx_app]
            exact congrArg (fun s => Value.string (tx s)) (preTx_succ ⟨3, l, r, a, b, c, d⟩ 4).symm
          case measure => simp [intOf]
        · have c5 : _ = some (Value.int .i64 d) := HC.out 5 (by omega)
          have hz1 : (tx (preTx ⟨3, l, r, a, b, c, d⟩ 5)).size ≤ 1000 := by have := preTx_len ⟨3, l, r, a, b, c, d⟩ HIN.out 5; rw [tx_size]; omega
          have hz2 : (tx (Lib.itoa d)).size ≤ 1000 := by have := itoa_len d (HIN.out 6).1 (HIN.out 6).2; rw [tx_size]; omega
          have bd : -200000 ≤ d ∧ d ≤ 200000 := HB.out 6
          go_wp2_with fail
          refine (s_Number d (by omega) (by omega) _).mono ?_
          rintro e w4 ⟨rfl, hb4⟩
          have B4 := Lib.hid (Later.trans B3.out hb4)
          have C4 : Hid (∀ j, j < 6 → w4.cell? ⟨w.heap.size + 1 + 1, j, none⟩ = some (.int .i64 ((Sg.mk 3 l r a b c d).at (j + 1)))) := Lib.hid (fun j hj => by rw [Below.cell (p := ⟨w.heap.size + 1 + 1, j, none⟩) hb4 hsz]; exact HC.out j hj)
          have hsz4 : w.heap.size + 1 + 1 < w4.heap.size := by have := hb4.size; omega
          clear hb4 c5
          go_wp2_with fail
          go_roundw
          case rel =>
            refine ⟨6, by omega, rfl, ?_, C4.out, hsz4, B4.out⟩
            show Value.string (tx (preTx ⟨3, l, r, a, b, c, d⟩ 5) ++ tx [32] ++ tx (Lib.itoa d)) = _
            rw [tx_app, tx_app]
            exact congrArg (fun s => Value.string (tx s)) (preTx_succ ⟨3, l, r, a, b, c, d⟩ 5).symm
          case measure => simp [intOf]
      · obtain rfl : k = 6 := by omega
        go_wp2_with fail
        go_ret
        exact ⟨congrArg (fun s => Ending.returned (.string (tx s))) (preTx_6 ⟨3, l, r, a, b, c, d⟩), B3.out⟩
theorem s_Line4 (l r a b c d : Int) (h : sgB ⟨4, l, r, a, b, c, d⟩ = true) (hin : Sg.In ⟨4, l, r, a, b, c, d⟩) (w : World) :
    Calls Tryd.prog 16 #[.agg #[.int .i64 4, .int .i64 l, .int .i64 r, .int .i64 a, .int .i64 b, .int .i64 c, .int .i64 d]] w (Texts w (segTx ⟨4, l, r, a, b, c, d⟩)) := by
  have HB := Lib.hid (sg_bd _ h)
  have HIN := Lib.hid hin
  clear h hin
  have hk : kCells = #[.string (tx (kNm 0)), .string (tx (kNm 1)), .string (tx (kNm 2)), .string (tx (kNm 3)), .string (tx (kNm 4))] := rfl
  go_enter Tryd.func16, Tryd.ntmps16
  go_wp2_with fail
  go_region_with (go_at_call 31; refine (s_l03Kinds _).mono ?_; rw [hk]; rintro e w1 ⟨rfl, rfl⟩)
  all_goals
    go_wp2_with fail
    go_loopw [3, 5] (fun s i wr => ∃ k : Nat, k ≤ 6 ∧ i = .int .i64 k ∧ s = .string (tx (preTx ⟨4, l, r, a, b, c, d⟩ k)) ∧ (∀ j, j < 6 → wr.cell? ⟨w.heap.size + 1 + 1, j, none⟩ = some (.int .i64 ((Sg.mk 4 l r a b c d).at (j + 1)))) ∧ w.heap.size + 1 + 1 < wr.heap.size ∧ Later w wr) (fun _ i _ => 6 - (intOf i).toNat)
    case atStart =>
      refine ⟨0, by omega, rfl, by rw [preTx_0], ?_, by simp, (by repeat (first | (with_reducible exact Later.refl _) | (with_reducible exact Hid.out (by assumption)) | refine Later.alloc ?_ _ | refine Later.drewN ?_ _ | refine Later.drew ?_ | refine Later.trans ?_ (Hid.out (by assumption))))⟩
      intro j hj
      have h5 : j = 0 ∨ j = 1 ∨ j = 2 ∨ j = 3 ∨ j = 4 ∨ j = 5 := by omega
      rcases h5 with rfl | rfl | rfl | rfl | rfl | rfl
      all_goals
        (repeat with_reducible refine cell_drew _ _ _ ?_)
        exact cell_new _ _ _ _ _ _ (by simp) rfl
    case round =>
      obtain ⟨k, hk6, rfl, rfl, hc, hsz, hb⟩ := hrel
      have HC := Lib.hid hc; have B3 := Lib.hid hb
      clear hc hb
      by_cases h6 : k < 6
      · have h5 : k = 0 ∨ k = 1 ∨ k = 2 ∨ k = 3 ∨ k = 4 ∨ k = 5 := by omega
        clear h6 hk6
        rcases h5 with rfl | rfl | rfl | rfl | rfl | rfl
        · have c0 : _ = some (Value.int .i64 l) := HC.out 0 (by omega)
          have hz1 : (tx (preTx ⟨4, l, r, a, b, c, d⟩ 0)).size ≤ 1000 := by have := preTx_len ⟨4, l, r, a, b, c, d⟩ HIN.out 0; rw [tx_size]; omega
          have hz2 : (tx (Lib.itoa l)).size ≤ 1000 := by have := itoa_len l (HIN.out 1).1 (HIN.out 1).2; rw [tx_size]; omega
          have bd : -200000 ≤ l ∧ l ≤ 200000 := HB.out 1
          go_wp2_with fail
          refine (s_Number l (by omega) (by omega) _).mono ?_
          rintro e w4 ⟨rfl, hb4⟩
          have B4 := Lib.hid (Later.trans B3.out hb4)
          have C4 : Hid (∀ j, j < 6 → w4.cell? ⟨w.heap.size + 1 + 1, j, none⟩ = some (.int .i64 ((Sg.mk 4 l r a b c d).at (j + 1)))) := Lib.hid (fun j hj => by rw [Below.cell (p := ⟨w.heap.size + 1 + 1, j, none⟩) hb4 hsz]; exact HC.out j hj)
          have hsz4 : w.heap.size + 1 + 1 < w4.heap.size := by have := hb4.size; omega
          clear hb4 c0
          go_wp2_with fail
          go_roundw
          case rel =>
            refine ⟨1, by omega, rfl, ?_, C4.out, hsz4, B4.out⟩
            show Value.string (tx (preTx ⟨4, l, r, a, b, c, d⟩ 0) ++ tx [32] ++ tx (Lib.itoa l)) = _
            rw [tx_app, tx_app]
            exact congrArg (fun s => Value.string (tx s)) (preTx_succ ⟨4, l, r, a, b, c, d⟩ 0).symm
          case measure => simp [intOf]
        · have c1 : _ = some (Value.int .i64 r) := HC.out 1 (by omega)
          have hz1 : (tx (preTx ⟨4, l, r, a, b, c, d⟩ 1)).size ≤ 1000 := by have := preTx_len ⟨4, l, r, a, b, c, d⟩ HIN.out 1; rw [tx_size]; omega
          have hz2 : (tx (Lib.itoa r)).size ≤ 1000 := by have := itoa_len r (HIN.out 2).1 (HIN.out 2).2; rw [tx_size]; omega
          have bd : -200000 ≤ r ∧ r ≤ 200000 := HB.out 2
          go_wp2_with fail
          refine (s_Number r (by omega) (by omega) _).mono ?_
          rintro e w4 ⟨rfl, hb4⟩
          have B4 := Lib.hid (Later.trans B3.out hb4)
          have C4 : Hid (∀ j, j < 6 → w4.cell? ⟨w.heap.size + 1 + 1, j, none⟩ = some (.int .i64 ((Sg.mk 4 l r a b c d).at (j + 1)))) := Lib.hid (fun j hj => by rw [Below.cell (p := ⟨w.heap.size + 1 + 1, j, none⟩) hb4 hsz]; exact HC.out j hj)
          have hsz4 : w.heap.size + 1 + 1 < w4.heap.size := by have := hb4.size; omega
          clear hb4 c1
          go_wp2_with fail
          go_roundw
          case rel =>
            refine ⟨2, by omega, rfl, ?_, C4.out, hsz4, B4.out⟩
            show Value.string (tx (preTx ⟨4, l, r, a, b, c, d⟩ 1) ++ tx [32] ++ tx (Lib.itoa r)) = _
            rw [tx_app, tx_app]
            exact congrArg (fun s => Value.string (tx s)) (preTx_succ ⟨4, l, r, a, b, c, d⟩ 1).symm
          case measure => simp [intOf]
        · have c2 : _ = some (Value.int .i64 a) := HC.out 2 (by omega)
          have hz1 : (tx (preTx ⟨4, l, r, a, b, c, d⟩ 2)).size ≤ 1000 := by have := preTx_len ⟨4, l, r, a, b, c, d⟩ HIN.out 2; rw [tx_size]; omega
          have hz2 : (tx (Lib.itoa a)).size ≤ 1000 := by have := itoa_len a (HIN.out 3).1 (HIN.out 3).2; rw [tx_size]; omega
          have bd : -200000 ≤ a ∧ a ≤ 200000 := HB.out 3
          go_wp2_with fail
          refine (s_Number a (by omega) (by omega) _).mono ?_
          rintro e w4 ⟨rfl, hb4⟩
          have B4 := Lib.hid (Later.trans B3.out hb4)
          have C4 : Hid (∀ j, j < 6 → w4.cell? ⟨w.heap.size + 1 + 1, j, none⟩ = some (.int .i64 ((Sg.mk 4 l r a b c d).at (j + 1)))) := Lib.hid (fun j hj => by rw [Below.cell (p := ⟨w.heap.size + 1 + 1, j, none⟩) hb4 hsz]; exact HC.out j hj)
          have hsz4 : w.heap.size + 1 + 1 < w4.heap.size := by have := hb4.size; omega
          clear hb4 c2
          go_wp2_with fail
          go_roundw
          case rel =>
            refine ⟨3, by omega, rfl, ?_, C4.out, hsz4, B4.out⟩
            show Value.string (tx (preTx ⟨4, l, r, a, b, c, d⟩ 2) ++ tx [32] ++ tx (Lib.itoa a)) = _
            rw [tx_app, tx_app]
            exact congrArg (fun s => Value.string (tx s)) (preTx_succ ⟨4, l, r, a, b, c, d⟩ 2).symm
          case measure => simp [intOf]
        · have c3 : _ = some (Value.int .i64 b) := HC.out 3 (by omega)
          have hz1 : (tx (preTx ⟨4, l, r, a, b, c, d⟩ 3)).size ≤ 1000 := by have := preTx_len ⟨4, l, r, a, b, c, d⟩ HIN.out 3; rw [tx_size]; omega
          have hz2 : (tx (Lib.itoa b)).size ≤ 1000 := by have := itoa_len b (HIN.out 4).1 (HIN.out 4).2; rw [tx_size]; omega
          have bd : -200000 ≤ b ∧ b ≤ 200000 := HB.out 4
          go_wp2_with fail
          refine (s_Number b (by omega) (by omega) _).mono ?_
          rintro e w4 ⟨rfl, hb4⟩
          have B4 := Lib.hid (Later.trans B3.out hb4)
          have C4 : Hid (∀ j, j < 6 → w4.cell? ⟨w.heap.size + 1 + 1, j, none⟩ = some (.int .i64 ((Sg.mk 4 l r a b c d).at (j + 1)))) := Lib.hid (fun j hj => by rw [Below.cell (p := ⟨w.heap.size + 1 + 1, j, none⟩) hb4 hsz]; exact HC.out j hj)
          have hsz4 : w.heap.size + 1 + 1 < w4.heap.size := by have := hb4.size; omega
          clear hb4 c3
          go_wp2_with fail
          go_roundw
          case rel =>
            refine ⟨4, by omega, rfl, ?_, C4.out, hsz4, B4.out⟩
            show Value.string (tx (preTx ⟨4, l, r, a, b, c, d⟩ 3) ++ tx [32] ++ tx (Lib.itoa b)) = _
            rw [tx_app, tx_app]
            exact congrArg (fun s => Value.string (tx s)) (preTx_succ ⟨4, l, r, a, b, c, d⟩ 3).symm
          case measure => simp [intOf]
        · have c4 : _ = some (Value.int .i64 c) := HC.out 4 (by omega)
          have hz1 : (tx (preTx ⟨4, l, r, a, b, c, d⟩ 4)).size ≤ 1000 := by have := preTx_len ⟨4, l, r, a, b, c, d⟩ HIN.out 4; rw [tx_size]; omega
          have hz2 : (tx (Lib.itoa c)).size ≤ 1000 := by have := itoa_len c (HIN.out 5).1 (HIN.out 5).2; rw [tx_size]; omega
          have bd : -200000 ≤ c ∧ c ≤ 200000 := HB.out 5
          go_wp2_with fail
          refine (s_Number c (by omega) (by omega) _).mono ?_
          rintro e w4 ⟨rfl, hb4⟩
          have B4 := Lib.hid (Later.trans B3.out hb4)
          have C4 : Hid (∀ j, j < 6 → w4.cell? ⟨w.heap.size + 1 + 1, j, none⟩ = some (.int .i64 ((Sg.mk 4 l r a b c d).at (j + 1)))) := Lib.hid (fun j hj => by rw [Below.cell (p := ⟨w.heap.size + 1 + 1, j, none⟩) hb4 hsz]; exact HC.out j hj)
          have hsz4 : w.heap.size + 1 + 1 < w4.heap.size := by have := hb4.size; omega
          clear hb4 c4
          go_wp2_with fail
          go_roundw
          case rel =>
            refine ⟨5, by omega, rfl, ?_, C4.out, hsz4, B4.out⟩
            show Value.string (tx (preTx ⟨4, l, r, a, b, c, d⟩ 4) ++ tx [32] ++ tx (Lib.itoa c)) = _
            rw [tx_app, tx_app]
            exact congrArg (fun s => Value.string (tx s)) (preTx_succ ⟨4, l, r, a, b, c, d⟩ 4).symm
          case measure => simp [intOf]
        · have c5 : _ = some (Value.int .i64 d) := HC.out 5 (by omega)
          have hz1 : (tx (preTx ⟨4, l, r, a, b, c, d⟩ 5)).size ≤ 1000 := by have := preTx_len ⟨4, l, r, a, b, c, d⟩ HIN.out 5; rw [tx_size]; omega
          have hz2 : (tx (Lib.itoa d)).size ≤ 1000 := by have := itoa_len d (HIN.out 6).1 (HIN.out 6).2; rw [tx_size]; omega
          have bd : -200000 ≤ d ∧ d ≤ 200000 := HB.out 6
          go_wp2_with fail
          refine (s_Number d (by omega) (by omega) _).mono ?_
          rintro e w4 ⟨rfl, hb4⟩
          have B4 := Lib.hid (Later.trans B3.out hb4)
          have C4 : Hid (∀ j, j < 6 → w4.cell? ⟨w.heap.size + 1 + 1, j, none⟩ = some (.int .i64 ((Sg.mk 4 l r a b c d).at (j + 1)))) := Lib.hid (fun j hj => by rw [Below.cell (p := ⟨w.heap.size + 1 + 1, j, none⟩) hb4 hsz]; exact HC.out j hj)
          have hsz4 : w.heap.size + 1 + 1 < w4.heap.size := by have := hb4.size; omega
          clear hb4 c5
          go_wp2_with fail
          go_roundw
          case rel =>
            refine ⟨6, by omega, rfl, ?_, C4.out, hsz4, B4.out⟩
            show Value.string (tx (preTx ⟨4, l, r, a, b, c, d⟩ 5) ++ tx [32] ++ tx (Lib.itoa d)) = _
            rw [tx_app, tx_app]
            exact congrArg (fun s => Value.string (tx s)) (preTx_succ ⟨4, l, r, a, b, c, d⟩ 5).symm
          case measure => simp [intOf]
      · obtain rfl : k = 6 := by omega
        go_wp2_with fail
        go_ret
        exact ⟨congrArg (fun s => Ending.returned (.string (tx s))) (preTx_6 ⟨4, l, r, a, b, c, d⟩), B3.out⟩
theorem s_Line (x : Sg) (h : sgB x = true) (hin : x.In) (w : World) : Calls Tryd.prog 16 #[.agg #[.int .i64 x.k, .int .i64 x.l, .int .i64 x.r, .int .i64 x.a, .int .i64 x.b, .int .i64 x.c, .int .i64 x.d]] w (Texts w (segTx x)) := by
  have hk : kndB x.k = true := by have := ((sgB_iff x).1 h).1; unfold kndB; simp; omega
  obtain ⟨k, l, r, a, b, c, d⟩ := x
  rcases kinds hk with h' | h' | h' | h' | h'
  all_goals
    (replace h' : k = _ := h'; subst h')
  · exact s_Line0 l r a b c d h hin w
  · exact s_Line1 l r a b c d h hin w
  · exact s_Line2 l r a b c d h hin w
  · exact s_Line3 l r a b c d h hin w
  · exact s_Line4 l r a b c d h hin w
end Go.Proofs.YtkgjojnngankeaaDoor
