/- The text of a segment, of the program. -/
import Derived.Test.YtkhhoajoionlfaaGreatDoorTxM
import Derived.Test.YtkhhoajoionlfaaGreatDoorOwnT
import Derived.Test.YtkhhoajoionlfaaGreatDoorSg0
namespace Go.Proofs.YtkhhoajoionlfaaGreatDoor
open Go.RowKit Go.Shelf
set_option maxHeartbeats 4000000
set_option linter.unusedVariables false
set_option linter.unusedSimpArgs false
theorem tx_back (l : List (List UInt8)) : (l.map tx).map (·.data.toList) = l := by
  rw [List.map_map]
  exact (List.map_congr_left (fun x _ => by simp [tx])).trans (List.map_id l)
theorem i_JoinW (x : Sg) (hin : x.In) (g cap : Nat) (w : World) (hg : g < w.heap.size) (hc : 7 ≤ cap) (hcell : ∀ (j : Nat) y, ((wds x).map tx)[j]? = some y → w.cell? ⟨g, 0 + j, none⟩ = some (.string y)) :
    Calls Tryz.prog 36 #[.slice (some ⟨g, 0, none⟩) 7 cap, .string (tx [32])] w (Texts w (segTx x)) := by
  have e : Lib.join (((wds x).map tx).map (·.data.toList)) (tx [32]).data.toList = segTx x := by rw [tx_back]; rfl
  refine (Any.strings_Join Tryz.laysB Tryz.laysBX g 0 cap ((wds x).map tx) (tx [32]) w hcell hg (by simp [wds]) (by simpa [wds] using hc) (by rw [e]; have := segTx_len x hin; omega)).mono ?_
  rintro e' w' ⟨h1, h2⟩
  refine ⟨?_, h2⟩
  rw [h1, e]
  rfl

theorem i_name0 (w : World) : Calls Tryz.prog 115 #[.agg #[]] w (fun e w' => e = .returned (.string (tx (kNm 0))) ∧ Later w w') := by
  go_enter Tryz.func115, Tryz.ntmps115
  go_wp2_with fail
  go_ret
  exact ⟨rfl, (Later.refl _).alloc _⟩
theorem i_kindOf0 (w : World) : Calls Tryz.prog 34 #[.int .i64 0] w fun e w' => e = .returned (.tuple #[.iface 92 (.agg #[]), .bool true]) ∧ w = w' := i_kindOf 0 rfl w
theorem i_segmentText0 (l r a b c d : Int) (hin : Sg.In ⟨0, l, r, a, b, c, d⟩) (w : World) (ht : Tab w) : Calls Tryz.prog 17 #[.agg #[.int .i64 0, .int .i64 l, .int .i64 r, .int .i64 a, .int .i64 b, .int .i64 c, .int .i64 d]] w (Texts w (segTx ⟨0, l, r, a, b, c, d⟩)) := by
  have HT := Lib.hid ht
  clear ht
  have ix0 : ∀ W, (Instr.index 69 (.agg #[.int .i64 l, .int .i64 r, .int .i64 a, .int .i64 b, .int .i64 c, .int .i64 d]) (.int .i64 0)).run Tryz.prog W = .ok (.int .i64 l) W := fun _ => by kernel_rfl
  have ix1 : ∀ W, (Instr.index 69 (.agg #[.int .i64 l, .int .i64 r, .int .i64 a, .int .i64 b, .int .i64 c, .int .i64 d]) (.int .i64 1)).run Tryz.prog W = .ok (.int .i64 r) W := fun _ => by kernel_rfl
  have ix2 : ∀ W, (Instr.index 69 (.agg #[.int .i64 l, .int .i64 r, .int .i64 a, .int .i64 b, .int .i64 c, .int .i64 d]) (.int .i64 2)).run Tryz.prog W = .ok (.int .i64 a) W := fun _ => by kernel_rfl
  have ix3 : ∀ W, (Instr.index 69 (.agg #[.int .i64 l, .int .i64 r, .int .i64 a, .int .i64 b, .int .i64 c, .int .i64 d]) (.int .i64 3)).run Tryz.prog W = .ok (.int .i64 b) W := fun _ => by kernel_rfl
  have ix4 : ∀ W, (Instr.index 69 (.agg #[.int .i64 l, .int .i64 r, .int .i64 a, .int .i64 b, .int .i64 c, .int .i64 d]) (.int .i64 4)).run Tryz.prog W = .ok (.int .i64 c) W := fun _ => by kernel_rfl
  have ix5 : ∀ W, (Instr.index 69 (.agg #[.int .i64 l, .int .i64 r, .int .i64 a, .int .i64 b, .int .i64 c, .int .i64 d]) (.int .i64 5)).run Tryz.prog W = .ok (.int .i64 d) W := fun _ => by kernel_rfl
  go_enter Tryz.func17, Tryz.ntmps17
  go_wp2_with fail
  refine (i_kindOf0 _).mono ?_
  rintro e w' ⟨rfl, rfl⟩
  go_wp2_with fail
  refine (i_name0 _).mono ?_
  rintro e w1 ⟨rfl, hb⟩
  have B1 := Lib.hid ((((Later.refl w).alloc _).trans hb : Later w w1))
  obtain ⟨H, hcc, hff, hzz⟩ := later_facts hb
  clear hb
  (try simp at hzz)
  have hz0 : w.heap.size < w1.heap.size := (by omega)
  go_wp2_with fail
  have ho := ownT_one w1 w.heap.size B1.out.size (kNm 0)
  have O2 := Lib.hid ho
  clear ho
  have hfn : Hid (∀ j, -9223372036854775808 ≤ (Sg.mk 0 l r a b c d).at j ∧ (Sg.mk 0 l r a b c d).at j ≤ 9223372036854775807) := Lib.hid hin
  have HIN := Lib.hid hin
  clear hcc hff hin
  go_loopw [5, 36] (fun v i wr => ∃ (k : Nat), i = .int .i64 k ∧ k ≤ 6 ∧ OwnT wr w.heap.size v ((wds ⟨0, l, r, a, b, c, d⟩).take (k + 1)) ∧ Later w wr) (fun _ i _ => 6 - (intOf i).toNat)
  case atStart => exact ⟨0, rfl, by omega, O2.out, B1.out.alloc _⟩
  case round =>
    obtain ⟨k, rfl, hk, ho, hb⟩ := hrel
    have O3 := Lib.hid ho; have B3 := Lib.hid hb
    have T3 := Lib.hid (HT.out.later hb)
    clear ho hb O2 B1
    by_cases h6 : k < 6
    · have h5 : k = 0 ∨ k = 1 ∨ k = 2 ∨ k = 3 ∨ k = 4 ∨ k = 5 := by omega
      clear h6 hk
      rcases h5 with rfl | rfl | rfl | rfl | rfl | rfl
      · go_wp2_with fail
        refine (i_Format l (hfn.out 1).1 (hfn.out 1).2 _ T3.out).mono ?_
        rintro e w4 ⟨rfl, hb4⟩
        have B4 := Lib.hid (Later.trans B3.out hb4)
        have O4 := Lib.hid (O3.out.later hb4)
        clear hb4
        have hsz4 : w.heap.size ≤ w4.heap.size := B4.out.size
        go_wp2_with (at_builtin; go_must (refine app1T rfl _ _ rfl w.heap.size _ _ _ _ (Lib.itoa l) O4.out rfl rfl (by simp [wds]) hsz4 ?_; intro v' w5 ho hg))
        have B5 : Later w w5 := Below.grown B4.out hg hsz4 (fun j hj => (O4.out.lt j hj).1)
        go_roundw
        case rel => exact ⟨1, rfl, by omega, ho, B5⟩
        case measure => simp [intOf]
      · go_wp2_with fail
        refine (i_Format r (hfn.out 2).1 (hfn.out 2).2 _ T3.out).mono ?_
        rintro e w4 ⟨rfl, hb4⟩
        have B4 := Lib.hid (Later.trans B3.out hb4)
        have O4 := Lib.hid (O3.out.later hb4)
        clear hb4
        have hsz4 : w.heap.size ≤ w4.heap.size := B4.out.size
        go_wp2_with (at_builtin; go_must (refine app1T rfl _ _ rfl w.heap.size _ _ _ _ (Lib.itoa r) O4.out rfl rfl (by simp [wds]) hsz4 ?_; intro v' w5 ho hg))
        have B5 : Later w w5 := Below.grown B4.out hg hsz4 (fun j hj => (O4.out.lt j hj).1)
        go_roundw
        case rel => exact ⟨2, rfl, by omega, ho, B5⟩
        case measure => simp [intOf]
      · go_wp2_with fail
        refine (i_Format a (hfn.out 3).1 (hfn.out 3).2 _ T3.out).mono ?_
        rintro e w4 ⟨rfl, hb4⟩
        have B4 := Lib.hid (Later.trans B3.out hb4)
        have O4 := Lib.hid (O3.out.later hb4)
        clear hb4
        have hsz4 : w.heap.size ≤ w4.heap.size := B4.out.size
        go_wp2_with (at_builtin; go_must (refine app1T rfl _ _ rfl w.heap.size _ _ _ _ (Lib.itoa a) O4.out rfl rfl (by simp [wds]) hsz4 ?_; intro v' w5 ho hg))
        have B5 : Later w w5 := Below.grown B4.out hg hsz4 (fun j hj => (O4.out.lt j hj).1)
        go_roundw
        case rel => exact ⟨3, rfl, by omega, ho, B5⟩
        case measure => simp [intOf]
      · go_wp2_with fail
        refine (i_Format b (hfn.out 4).1 (hfn.out 4).2 _ T3.out).mono ?_
        rintro e w4 ⟨rfl, hb4⟩
        have B4 := Lib.hid (Later.trans B3.out hb4)
        have O4 := Lib.hid (O3.out.later hb4)
        clear hb4
        have hsz4 : w.heap.size ≤ w4.heap.size := B4.out.size
        go_wp2_with (at_builtin; go_must (refine app1T rfl _ _ rfl w.heap.size _ _ _ _ (Lib.itoa b) O4.out rfl rfl (by simp [wds]) hsz4 ?_; intro v' w5 ho hg))
        have B5 : Later w w5 := Below.grown B4.out hg hsz4 (fun j hj => (O4.out.lt j hj).1)
        go_roundw
        case rel => exact ⟨4, rfl, by omega, ho, B5⟩
        case measure => simp [intOf]
      · go_wp2_with fail
        refine (i_Format c (hfn.out 5).1 (hfn.out 5).2 _ T3.out).mono ?_
        rintro e w4 ⟨rfl, hb4⟩
        have B4 := Lib.hid (Later.trans B3.out hb4)
        have O4 := Lib.hid (O3.out.later hb4)
        clear hb4
        have hsz4 : w.heap.size ≤ w4.heap.size := B4.out.size
        go_wp2_with (at_builtin; go_must (refine app1T rfl _ _ rfl w.heap.size _ _ _ _ (Lib.itoa c) O4.out rfl rfl (by simp [wds]) hsz4 ?_; intro v' w5 ho hg))
        have B5 : Later w w5 := Below.grown B4.out hg hsz4 (fun j hj => (O4.out.lt j hj).1)
        go_roundw
        case rel => exact ⟨5, rfl, by omega, ho, B5⟩
        case measure => simp [intOf]
      · go_wp2_with fail
        refine (i_Format d (hfn.out 6).1 (hfn.out 6).2 _ T3.out).mono ?_
        rintro e w4 ⟨rfl, hb4⟩
        have B4 := Lib.hid (Later.trans B3.out hb4)
        have O4 := Lib.hid (O3.out.later hb4)
        clear hb4
        have hsz4 : w.heap.size ≤ w4.heap.size := B4.out.size
        go_wp2_with (at_builtin; go_must (refine app1T rfl _ _ rfl w.heap.size _ _ _ _ (Lib.itoa d) O4.out rfl rfl (by simp [wds]) hsz4 ?_; intro v' w5 ho hg))
        have B5 : Later w w5 := Below.grown B4.out hg hsz4 (fun j hj => (O4.out.lt j hj).1)
        go_roundw
        case rel => exact ⟨6, rfl, by omega, ho, B5⟩
        case measure => simp [intOf]
    · obtain rfl : k = 6 := by omega
      obtain ⟨g, cap, rfl, hc1, hg, hb0, hcell⟩ := O3.out.row (by simp [wds])
      have HC := Lib.hid hcell
      clear hcell h6 hk
      go_wp2_with fail
      refine (i_JoinW ⟨0, l, r, a, b, c, d⟩ HIN.out g cap _ hg hc1 HC.out).mono ?_
      rintro e w4 ⟨rfl, hb4⟩
      have B4 := Lib.hid (Later.trans B3.out hb4)
      clear hb4
      go_wp2_with fail
      go_ret
      exact ⟨rfl, B4.out⟩
theorem i_name1 (w : World) : Calls Tryz.prog 116 #[.agg #[]] w (fun e w' => e = .returned (.string (tx (kNm 1))) ∧ Later w w') := by
  go_enter Tryz.func116, Tryz.ntmps116
  go_wp2_with fail
  go_ret
  exact ⟨rfl, (Later.refl _).alloc _⟩
theorem i_kindOf1 (w : World) : Calls Tryz.prog 34 #[.int .i64 1] w fun e w' => e = .returned (.tuple #[.iface 93 (.agg #[]), .bool true]) ∧ w = w' := i_kindOf 1 rfl w
theorem i_segmentText1 (l r a b c d : Int) (hin : Sg.In ⟨1, l, r, a, b, c, d⟩) (w : World) (ht : Tab w) : Calls Tryz.prog 17 #[.agg #[.int .i64 1, .int .i64 l, .int .i64 r, .int .i64 a, .int .i64 b, .int .i64 c, .int .i64 d]] w (Texts w (segTx ⟨1, l, r, a, b, c, d⟩)) := by
  have HT := Lib.hid ht
  clear ht
  have ix0 : ∀ W, (Instr.index 69 (.agg #[.int .i64 l, .int .i64 r, .int .i64 a, .int .i64 b, .int .i64 c, .int .i64 d]) (.int .i64 0)).run Tryz.prog W = .ok (.int .i64 l) W := fun _ => by kernel_rfl
  have ix1 : ∀ W, (Instr.index 69 (.agg #[.int .i64 l, .int .i64 r, .int .i64 a, .int .i64 b, .int .i64 c, .int .i64 d]) (.int .i64 1)).run Tryz.prog W = .ok (.int .i64 r) W := fun _ => by kernel_rfl
  have ix2 : ∀ W, (Instr.index 69 (.agg #[.int .i64 l, .int .i64 r, .int .i64 a, .int .i64 b, .int .i64 c, .int .i64 d]) (.int .i64 2)).run Tryz.prog W = .ok (.int .i64 a) W := fun _ => by kernel_rfl
  have ix3 : ∀ W, (Instr.index 69 (.agg #[.int .i64 l, .int .i64 r, .int .i64 a, .int .i64 b, .int .i64 c, .int .i64 d]) (.int .i64 3)).run Tryz.prog W = .ok (.int .i64 b) W := fun _ => by kernel_rfl
  have ix4 : ∀ W, (Instr.index 69 (.agg #[.int .i64 l, .int .i64 r, .int .i64 a, .int .i64 b, .int .i64 c, .int .i64 d]) (.int .i64 4)).run Tryz.prog W = .ok (.int .i64 c) W := fun _ => by kernel_rfl
  have ix5 : ∀ W, (Instr.index 69 (.agg #[.int .i64 l, .int .i64 r, .int .i64 a, .int .i64 b, .int .i64 c, .int .i64 d]) (.int .i64 5)).run Tryz.prog W = .ok (.int .i64 d) W := fun _ => by kernel_rfl
  go_enter Tryz.func17, Tryz.ntmps17
  go_wp2_with fail
  refine (i_kindOf1 _).mono ?_
  rintro e w' ⟨rfl, rfl⟩
  go_wp2_with fail
  refine (i_name1 _).mono ?_
  rintro e w1 ⟨rfl, hb⟩
  have B1 := Lib.hid ((((Later.refl w).alloc _).trans hb : Later w w1))
  obtain ⟨H, hcc, hff, hzz⟩ := later_facts hb
  clear hb
  (try simp at hzz)
  have hz0 : w.heap.size < w1.heap.size := (by omega)
  go_wp2_with fail
  have ho := ownT_one w1 w.heap.size B1.out.size (kNm 1)
  have O2 := Lib.hid ho
  clear ho
  have hfn : Hid (∀ j, -9223372036854775808 ≤ (Sg.mk 1 l r a b c d).at j ∧ (Sg.mk 1 l r a b c d).at j ≤ 9223372036854775807) := Lib.hid hin
  have HIN := Lib.hid hin
  clear hcc hff hin
  go_loopw [5, 36] (fun v i wr => ∃ (k : Nat), i = .int .i64 k ∧ k ≤ 6 ∧ OwnT wr w.heap.size v ((wds ⟨1, l, r, a, b, c, d⟩).take (k + 1)) ∧ Later w wr) (fun _ i _ => 6 - (intOf i).toNat)
  case atStart => exact ⟨0, rfl, by omega, O2.out, B1.out.alloc _⟩
  case round =>
    obtain ⟨k, rfl, hk, ho, hb⟩ := hrel
    have O3 := Lib.hid ho; have B3 := Lib.hid hb
    have T3 := Lib.hid (HT.out.later hb)
    clear ho hb O2 B1
    by_cases h6 : k < 6
    · have h5 : k = 0 ∨ k = 1 ∨ k = 2 ∨ k = 3 ∨ k = 4 ∨ k = 5 := by omega
      clear h6 hk
      rcases h5 with rfl | rfl | rfl | rfl | rfl | rfl
      · go_wp2_with fail
        refine (i_Format l (hfn.out 1).1 (hfn.out 1).2 _ T3.out).mono ?_
        rintro e w4 ⟨rfl, hb4⟩
        have B4 := Lib.hid (Later.trans B3.out hb4)
        have O4 := Lib.hid (O3.out.later hb4)
        clear hb4
        have hsz4 : w.heap.size ≤ w4.heap.size := B4.out.size
        go_wp2_with (at_builtin; go_must (refine app1T rfl _ _ rfl w.heap.size _ _ _ _ (Lib.itoa l) O4.out rfl rfl (by simp [wds]) hsz4 ?_; intro v' w5 ho hg))
        have B5 : Later w w5 := Below.grown B4.out hg hsz4 (fun j hj => (O4.out.lt j hj).1)
        go_roundw
        case rel => exact ⟨1, rfl, by omega, ho, B5⟩
        case measure => simp [intOf]
      · go_wp2_with fail
        refine (i_Format r (hfn.out 2).1 (hfn.out 2).2 _ T3.out).mono ?_
        rintro e w4 ⟨rfl, hb4⟩
        have B4 := Lib.hid (Later.trans B3.out hb4)
        have O4 := Lib.hid (O3.out.later hb4)
        clear hb4
        have hsz4 : w.heap.size ≤ w4.heap.size := B4.out.size
        go_wp2_with (at_builtin; go_must (refine app1T rfl _ _ rfl w.heap.size _ _ _ _ (Lib.itoa r) O4.out rfl rfl (by simp [wds]) hsz4 ?_; intro v' w5 ho hg))
        have B5 : Later w w5 := Below.grown B4.out hg hsz4 (fun j hj => (O4.out.lt j hj).1)
        go_roundw
        case rel => exact ⟨2, rfl, by omega, ho, B5⟩
        case measure => simp [intOf]
      · go_wp2_with fail
        refine (i_Format a (hfn.out 3).1 (hfn.out 3).2 _ T3.out).mono ?_
        rintro e w4 ⟨rfl, hb4⟩
        have B4 := Lib.hid (Later.trans B3.out hb4)
        have O4 := Lib.hid (O3.out.later hb4)
        clear hb4
        have hsz4 : w.heap.size ≤ w4.heap.size := B4.out.size
        go_wp2_with (at_builtin; go_must (refine app1T rfl _ _ rfl w.heap.size _ _ _ _ (Lib.itoa a) O4.out rfl rfl (by simp [wds]) hsz4 ?_; intro v' w5 ho hg))
        have B5 : Later w w5 := Below.grown B4.out hg hsz4 (fun j hj => (O4.out.lt j hj).1)
        go_roundw
        case rel => exact ⟨3, rfl, by omega, ho, B5⟩
        case measure => simp [intOf]
      · go_wp2_with fail
        refine (i_Format b (hfn.out 4).1 (hfn.out 4).2 _ T3.out).mono ?_
        rintro e w4 ⟨rfl, hb4⟩
        have B4 := Lib.hid (Later.trans B3.out hb4)
        have O4 := Lib.hid (O3.out.later hb4)
        clear hb4
        have hsz4 : w.heap.size ≤ w4.heap.size := B4.out.size
        go_wp2_with (at_builtin; go_must (refine app1T rfl _ _ rfl w.heap.size _ _ _ _ (Lib.itoa b) O4.out rfl rfl (by simp [wds]) hsz4 ?_; intro v' w5 ho hg))
        have B5 : Later w w5 := Below.grown B4.out hg hsz4 (fun j hj => (O4.out.lt j hj).1)
        go_roundw
        case rel => exact ⟨4, rfl, by omega, ho, B5⟩
        case measure => simp [intOf]
      · go_wp2_with fail
        refine (i_Format c (hfn.out 5).1 (hfn.out 5).2 _ T3.out).mono ?_
        rintro e w4 ⟨rfl, hb4⟩
        have B4 := Lib.hid (Later.trans B3.out hb4)
        have O4 := Lib.hid (O3.out.later hb4)
        clear hb4
        have hsz4 : w.heap.size ≤ w4.heap.size := B4.out.size
        go_wp2_with (at_builtin; go_must (refine app1T rfl _ _ rfl w.heap.size _ _ _ _ (Lib.itoa c) O4.out rfl rfl (by simp [wds]) hsz4 ?_; intro v' w5 ho hg))
        have B5 : Later w w5 := Below.grown B4.out hg hsz4 (fun j hj => (O4.out.lt j hj).1)
        go_roundw
        case rel => exact ⟨5, rfl, by omega, ho, B5⟩
        case measure => simp [intOf]
      · go_wp2_with fail
        refine (i_Format d (hfn.out 6).1 (hfn.out 6).2 _ T3.out).mono ?_
        rintro e w4 ⟨rfl, hb4⟩
        have B4 := Lib.hid (Later.trans B3.out hb4)
        have O4 := Lib.hid (O3.out.later hb4)
        clear hb4
        have hsz4 : w.heap.size ≤ w4.heap.size := B4.out.size
        go_wp2_with (at_builtin; go_must (refine app1T rfl _ _ rfl w.heap.size _ _ _ _ (Lib.itoa d) O4.out rfl rfl (by simp [wds]) hsz4 ?_; intro v' w5 ho hg))
        have B5 : Later w w5 := Below.grown B4.out hg hsz4 (fun j hj => (O4.out.lt j hj).1)
        go_roundw
        case rel => exact ⟨6, rfl, by omega, ho, B5⟩
        case measure => simp [intOf]
    · obtain rfl : k = 6 := by omega
      obtain ⟨g, cap, rfl, hc1, hg, hb0, hcell⟩ := O3.out.row (by simp [wds])
      have HC := Lib.hid hcell
      clear hcell h6 hk
      go_wp2_with fail
      refine (i_JoinW ⟨1, l, r, a, b, c, d⟩ HIN.out g cap _ hg hc1 HC.out).mono ?_
      rintro e w4 ⟨rfl, hb4⟩
      have B4 := Lib.hid (Later.trans B3.out hb4)
      clear hb4
      go_wp2_with fail
      go_ret
      exact ⟨rfl, B4.out⟩
theorem i_name2 (w : World) : Calls Tryz.prog 117 #[.agg #[]] w (fun e w' => e = .returned (.string (tx (kNm 2))) ∧ Later w w') := by
  go_enter Tryz.func117, Tryz.ntmps117
  go_wp2_with fail
  go_ret
  exact ⟨rfl, (Later.refl _).alloc _⟩
theorem i_kindOf2 (w : World) : Calls Tryz.prog 34 #[.int .i64 2] w fun e w' => e = .returned (.tuple #[.iface 94 (.agg #[]), .bool true]) ∧ w = w' := i_kindOf 2 rfl w
theorem i_segmentText2 (l r a b c d : Int) (hin : Sg.In ⟨2, l, r, a, b, c, d⟩) (w : World) (ht : Tab w) : Calls Tryz.prog 17 #[.agg #[.int .i64 2, .int .i64 l, .int .i64 r, .int .i64 a, .int .i64 b, .int .i64 c, .int .i64 d]] w (Texts w (segTx ⟨2, l, r, a, b, c, d⟩)) := by
  have HT := Lib.hid ht
  clear ht
  have ix0 : ∀ W, (Instr.index 69 (.agg #[.int .i64 l, .int .i64 r, .int .i64 a, .int .i64 b, .int .i64 c, .int .i64 d]) (.int .i64 0)).run Tryz.prog W = .ok (.int .i64 l) W := fun _ => by kernel_rfl
  have ix1 : ∀ W, (Instr.index 69 (.agg #[.int .i64 l, .int .i64 r, .int .i64 a, .int .i64 b, .int .i64 c, .int .i64 d]) (.int .i64 1)).run Tryz.prog W = .ok (.int .i64 r) W := fun _ => by kernel_rfl
  have ix2 : ∀ W, (Instr.index 69 (.agg #[.int .i64 l, .int .i64 r, .int .i64 a, .int .i64 b, .int .i64 c, .int .i64 d]) (.int .i64 2)).run Tryz.prog W = .ok (.int .i64 a) W := fun _ => by kernel_rfl
  have ix3 : ∀ W, (Instr.index 69 (.agg #[.int .i64 l, .int .i64 r, .int .i64 a, .int .i64 b, .int .i64 c, .int .i64 d]) (.int .i64 3)).run Tryz.prog W = .ok (.int .i64 b) W := fun _ => by kernel_rfl
  have ix4 : ∀ W, (Instr.index 69 (.agg #[.int .i64 l, .int .i64 r, .int .i64 a, .int .i64 b, .int .i64 c, .int .i64 d]) (.int .i64 4)).run Tryz.prog W = .ok (.int .i64 c) W := fun _ => by kernel_rfl
  have ix5 : ∀ W, (Instr.index 69 (.agg #[.int .i64 l, .int .i64 r, .int .i64 a, .int .i64 b, .int .i64 c, .int .i64 d]) (.int .i64 5)).run Tryz.prog W = .ok (.int .i64 d) W := fun _ => by kernel_rfl
  go_enter Tryz.func17, Tryz.ntmps17
  go_wp2_with fail
  refine (i_kindOf2 _).mono ?_
  rintro e w' ⟨rfl, rfl⟩
  go_wp2_with fail
  refine (i_name2 _).mono ?_
  rintro e w1 ⟨rfl, hb⟩
  have B1 := Lib.hid ((((Later.refl w).alloc _).trans hb : Later w w1))
  obtain ⟨H, hcc, hff, hzz⟩ := later_facts hb
  clear hb
  (try simp at hzz)
  have hz0 : w.heap.size < w1.heap.size := (by omega)
  go_wp2_with fail
  have ho := ownT_one w1 w.heap.size B1.out.size (kNm 2)
  have O2 := Lib.hid ho
  clear ho
  have hfn : Hid (∀ j, -9223372036854775808 ≤ (Sg.mk 2 l r a b c d).at j ∧ (Sg.mk 2 l r a b c d).at j ≤ 9223372036854775807) := Lib.hid hin
  have HIN := Lib.hid hin
  clear hcc hff hin
  go_loopw [5, 36] (fun v i wr => ∃ (k : Nat), i = .int .i64 k ∧ k ≤ 6 ∧ OwnT wr w.heap.size v ((wds ⟨2, l, r, a, b, c, d⟩).take (k + 1)) ∧ Later w wr) (fun _ i _ => 6 - (intOf i).toNat)
  case atStart => exact ⟨0, rfl, by omega, O2.out, B1.out.alloc _⟩
  case round =>
    obtain ⟨k, rfl, hk, ho, hb⟩ := hrel
    have O3 := Lib.hid ho; have B3 := Lib.hid hb
    have T3 := Lib.hid (HT.out.later hb)
    clear ho hb O2 B1
    by_cases h6 : k < 6
    · have h5 : k = 0 ∨ k = 1 ∨ k = 2 ∨ k = 3 ∨ k = 4 ∨ k = 5 := by omega
      clear h6 hk
      rcases h5 with rfl | rfl | rfl | rfl | rfl | rfl
      · go_wp2_with fail
        refine (i_Format l (hfn.out 1).1 (hfn.out 1).2 _ T3.out).mono ?_
        rintro e w4 ⟨rfl, hb4⟩
        have B4 := Lib.hid (Later.trans B3.out hb4)
        have O4 := Lib.hid (O3.out.later hb4)
        clear hb4
        have hsz4 : w.heap.size ≤ w4.heap.size := B4.out.size
        go_wp2_with (at_builtin; go_must (refine app1T rfl _ _ rfl w.heap.size _ _ _ _ (Lib.itoa l) O4.out rfl rfl (by simp [wds]) hsz4 ?_; intro v' w5 ho hg))
        have B5 : Later w w5 := Below.grown B4.out hg hsz4 (fun j hj => (O4.out.lt j hj).1)
        go_roundw
        case rel => exact ⟨1, rfl, by omega, ho, B5⟩
        case measure => simp [intOf]
      · go_wp2_with fail
        refine (i_Format r (hfn.out 2).1 (hfn.out 2).2 _ T3.out).mono ?_
        rintro e w4 ⟨rfl, hb4⟩
        have B4 := Lib.hid (Later.trans B3.out hb4)
        have O4 := Lib.hid (O3.out.later hb4)
        clear hb4
        have hsz4 : w.heap.size ≤ w4.heap.size := B4.out.size
        go_wp2_with (at_builtin; go_must (refine app1T rfl _ _ rfl w.heap.size _ _ _ _ (Lib.itoa r) O4.out rfl rfl (by simp [wds]) hsz4 ?_; intro v' w5 ho hg))
        have B5 : Later w w5 := Below.grown B4.out hg hsz4 (fun j hj => (O4.out.lt j hj).1)
        go_roundw
        case rel => exact ⟨2, rfl, by omega, ho, B5⟩
        case measure => simp [intOf]
      · go_wp2_with fail
        refine (i_Format a (hfn.out 3).1 (hfn.out 3).2 _ T3.out).mono ?_
        rintro e w4 ⟨rfl, hb4⟩
        have B4 := Lib.hid (Later.trans B3.out hb4)
        have O4 := Lib.hid (O3.out.later hb4)
        clear hb4
        have hsz4 : w.heap.size ≤ w4.heap.size := B4.out.size
        go_wp2_with (at_builtin; go_must (refine app1T rfl _ _ rfl w.heap.size _ _ _ _ (Lib.itoa a) O4.out rfl rfl (by simp [wds]) hsz4 ?_; intro v' w5 ho hg))
        have B5 : Later w w5 := Below.grown B4.out hg hsz4 (fun j hj => (O4.out.lt j hj).1)
        go_roundw
        case rel => exact ⟨3, rfl, by omega, ho, B5⟩
        case measure => simp [intOf]
      · go_wp2_with fail
        refine (i_Format b (hfn.out 4).1 (hfn.out 4).2 _ T3.out).mono ?_
        rintro e w4 ⟨rfl, hb4⟩
        have B4 := Lib.hid (Later.trans B3.out hb4)
        have O4 := Lib.hid (O3.out.later hb4)
        clear hb4
        have hsz4 : w.heap.size ≤ w4.heap.size := B4.out.size
        go_wp2_with (at_builtin; go_must (refine app1T rfl _ _ rfl w.heap.size _ _ _ _ (Lib.itoa b) O4.out rfl rfl (by simp [wds]) hsz4 ?_; intro v' w5 ho hg))
        have B5 : Later w w5 := Below.grown B4.out hg hsz4 (fun j hj => (O4.out.lt j hj).1)
        go_roundw
        case rel => exact ⟨4, rfl, by omega, ho, B5⟩
        case measure => simp [intOf]
      · go_wp2_with fail
        refine (i_Format c (hfn.out 5).1 (hfn.out 5).2 _ T3.out).mono ?_
        rintro e w4 ⟨rfl, hb4⟩
        have B4 := Lib.hid (Later.trans B3.out hb4)
        have O4 := Lib.hid (O3.out.later hb4)
        clear hb4
        have hsz4 : w.heap.size ≤ w4.heap.size := B4.out.size
        go_wp2_with (at_builtin; go_must (refine app1T rfl _ _ rfl w.heap.size _ _ _ _ (Lib.itoa c) O4.out rfl rfl (by simp [wds]) hsz4 ?_; intro v' w5 ho hg))
        have B5 : Later w w5 := Below.grown B4.out hg hsz4 (fun j hj => (O4.out.lt j hj).1)
        go_roundw
        case rel => exact ⟨5, rfl, by omega, ho, B5⟩
        case measure => simp [intOf]
      · go_wp2_with fail
        refine (i_Format d (hfn.out 6).1 (hfn.out 6).2 _ T3.out).mono ?_
        rintro e w4 ⟨rfl, hb4⟩
        have B4 := Lib.hid (Later.trans B3.out hb4)
        have O4 := Lib.hid (O3.out.later hb4)
        clear hb4
        have hsz4 : w.heap.size ≤ w4.heap.size := B4.out.size
        go_wp2_with (at_builtin; go_must (refine app1T rfl _ _ rfl w.heap.size _ _ _ _ (Lib.itoa d) O4.out rfl rfl (by simp [wds]) hsz4 ?_; intro v' w5 ho hg))
        have B5 : Later w w5 := Below.grown B4.out hg hsz4 (fun j hj => (O4.out.lt j hj).1)
        go_roundw
        case rel => exact ⟨6, rfl, by omega, ho, B5⟩
        case measure => simp [intOf]
    · obtain rfl : k = 6 := by omega
      obtain ⟨g, cap, rfl, hc1, hg, hb0, hcell⟩ := O3.out.row (by simp [wds])
      have HC := Lib.hid hcell
      clear hcell h6 hk
      go_wp2_with fail
      refine (i_JoinW ⟨2, l, r, a, b, c, d⟩ HIN.out g cap _ hg hc1 HC.out).mono ?_
      rintro e w4 ⟨rfl, hb4⟩
      have B4 := Lib.hid (Later.trans B3.out hb4)
      clear hb4
      go_wp2_with fail
      go_ret
      exact ⟨rfl, B4.out⟩
theorem i_name3 (w : World) : Calls Tryz.prog 118 #[.agg #[]] w (fun e w' => e = .returned (.string (tx (kNm 3))) ∧ Later w w') := by
  go_enter Tryz.func118, Tryz.ntmps118
  go_wp2_with fail
  go_ret
  exact ⟨rfl, (Later.refl _).alloc _⟩
theorem i_kindOf3 (w : World) : Calls Tryz.prog 34 #[.int .i64 3] w fun e w' => e = .returned (.tuple #[.iface 95 (.agg #[]), .bool true]) ∧ w = w' := i_kindOf 3 rfl w
theorem i_segmentText3 (l r a b c d : Int) (hin : Sg.In ⟨3, l, r, a, b, c, d⟩) (w : World) (ht : Tab w) : Calls Tryz.prog 17 #[.agg #[.int .i64 3, .int .i64 l, .int .i64 r, .int .i64 a, .int .i64 b, .int .i64 c, .int .i64 d]] w (Texts w (segTx ⟨3, l, r, a, b, c, d⟩)) := by
  have HT := Lib.hid ht
  clear ht
  have ix0 : ∀ W, (Instr.index 69 (.agg #[.int .i64 l, .int .i64 r, .int .i64 a, .int .i64 b, .int .i64 c, .int .i64 d]) (.int .i64 0)).run Tryz.prog W = .ok (.int .i64 l) W := fun _ => by kernel_rfl
  have ix1 : ∀ W, (Instr.index 69 (.agg #[.int .i64 l, .int .i64 r, .int .i64 a, .int .i64 b, .int .i64 c, .int .i64 d]) (.int .i64 1)).run Tryz.prog W = .ok (.int .i64 r) W := fun _ => by kernel_rfl
  have ix2 : ∀ W, (Instr.index 69 (.agg #[.int .i64 l, .int .i64 r, .int .i64 a, .int .i64 b, .int .i64 c, .int .i64 d]) (.int .i64 2)).run Tryz.prog W = .ok (.int .i64 a) W := fun _ => by kernel_rfl
  have ix3 : ∀ W, (Instr.index 69 (.agg #[.int .i64 l, .int .i64 r, .int .i64 a, .int .i64 b, .int .i64 c, .int .i64 d]) (.int .i64 3)).run Tryz.prog W = .ok (.int .i64 b) W := fun _ => by kernel_rfl
  have ix4 : ∀ W, (Instr.index 69 (.agg #[.int .i64 l, .int .i64 r, .int .i64 a, .int .i64 b, .int .i64 c, .int .i64 d]) (.int .i64 4)).run Tryz.prog W = .ok (.int .i64 c) W := fun _ => by kernel_rfl
  have ix5 : ∀ W, (Instr.index 69 (.agg #[.int .i64 l, .int .i64 r, .int .i64 a, .int .i64 b, .int .i64 c, .int .i64 d]) (.int .i64 5)).run Tryz.prog W = .ok (.int .i64 d) W := fun _ => by kernel_rfl
  go_enter Tryz.func17, Tryz.ntmps17
  go_wp2_with fail
  refine (i_kindOf3 _).mono ?_
  rintro e w' ⟨rfl, rfl⟩
  go_wp2_with fail
  refine (i_name3 _).mono ?_
  rintro e w1 ⟨rfl, hb⟩
  have B1 := Lib.hid ((((Later.refl w).alloc _).trans hb : Later w w1))
  obtain ⟨H, hcc, hff, hzz⟩ := later_facts hb
  clear hb
  (try simp at hzz)
  have hz0 : w.heap.size < w1.heap.size := (by omega)
  go_wp2_with fail
  have ho := ownT_one w1 w.heap.size B1.out.size (kNm 3)
  have O2 := Lib.hid ho
  clear ho
  have hfn : Hid (∀ j, -9223372036854775808 ≤ (Sg.mk 3 l r a b c d).at j ∧ (Sg.mk 3 l r a b c d).at j ≤ 9223372036854775807) := Lib.hid hin
  have HIN := Lib.hid hin
  clear hcc hff hin
  go_loopw [5, 36] (fun v i wr => ∃ (k : Nat), i = .int .i64 k ∧ k ≤ 6 ∧ OwnT wr w.heap.size v ((wds ⟨3, l, r, a, b, c, d⟩).take (k + 1)) ∧ Later w wr) (fun _ i _ => 6 - (intOf i).toNat)
  case atStart => exact ⟨0, rfl, by omega, O2.out, B1.out.alloc _⟩
  case round =>
    obtain ⟨k, rfl, hk, ho, hb⟩ := hrel
    have O3 := Lib.hid ho; have B3 := Lib.hid hb
    have T3 := Lib.hid (HT.out.later hb)
    clear ho hb O2 B1
    by_cases h6 : k < 6
    · have h5 : k = 0 ∨ k = 1 ∨ k = 2 ∨ k = 3 ∨ k = 4 ∨ k = 5 := by omega
      clear h6 hk
      rcases h5 with rfl | rfl | rfl | rfl | rfl | rfl
      · go_wp2_with fail
        refine (i_Format l (hfn.out 1).1 (hfn.out 1).2 _ T3.out).mono ?_
        rintro e w4 ⟨rfl, hb4⟩
        have B4 := Lib.hid (Later.trans B3.out hb4)
        have O4 := Lib.hid (O3.out.later hb4)
        clear hb4
        have hsz4 : w.heap.size ≤ w4.heap.size := B4.out.size
        go_wp2_with (at_builtin; go_must (refine app1T rfl _ _ rfl w.heap.size _ _ _ _ (Lib.itoa l) O4.out rfl rfl (by simp [wds]) hsz4 ?_; intro v' w5 ho hg))
        have B5 : Later w w5 := Below.grown B4.out hg hsz4 (fun j hj => (O4.out.lt j hj).1)
        go_roundw
        case rel => exact ⟨1, rfl, by omega, ho, B5⟩
        case measure => simp [intOf]
      · go_wp2_with fail
        refine (i_Format r (hfn.out 2).1 (hfn.out 2).2 _ T3.out).mono ?_
        rintro e w4 ⟨rfl, hb4⟩
        have B4 := Lib.hid (Later.trans B3.out hb4)
        have O4 := Lib.hid (O3.out.later hb4)
        clear hb4
        have hsz4 : w.heap.size ≤ w4.heap.size := B4.out.size
        go_wp2_with (at_builtin; go_must (refine app1T rfl _ _ rfl w.heap.size _ _ _ _ (Lib.itoa r) O4.out rfl rfl (by simp [wds]) hsz4 ?_; intro v' w5 ho hg))
        have B5 : Later w w5 := Below.grown B4.out hg hsz4 (fun j hj => (O4.out.lt j hj).1)
        go_roundw
        case rel => exact ⟨2, rfl, by omega, ho, B5⟩
        case measure => simp [intOf]
      · go_wp2_with fail
        refine (i_Format a (hfn.out 3).1 (hfn.out 3).2 _ T3.out).mono ?_
        rintro e w4 ⟨rfl, hb4⟩
        have B4 := Lib.hid (Later.trans B3.out hb4)
        have O4 := Lib.hid (O3.out.later hb4)
        clear hb4
        have hsz4 : w.heap.size ≤ w4.heap.size := B4.out.size
        go_wp2_with (at_builtin; go_must (refine app1T rfl _ _ rfl w.heap.size _ _ _ _ (Lib.itoa a) O4.out rfl rfl (by simp [wds]) hsz4 ?_; intro v' w5 ho hg))
        have B5 : Later w w5 := Below.grown B4.out hg hsz4 (fun j hj => (O4.out.lt j hj).1)
        go_roundw
        case rel => exact ⟨3, rfl, by omega, ho, B5⟩
        case measure => simp [intOf]
      · go_wp2_with fail
        refine (i_Format b (hfn.out 4).1 (hfn.out 4).2 _ T3.out).mono ?_
        rintro e w4 ⟨rfl, hb4⟩
        have B4 := Lib.hid (Later.trans B3.out hb4)
        have O4 := Lib.hid (O3.out.later hb4)
        clear hb4
        have hsz4 : w.heap.size ≤ w4.heap.size := B4.out.size
        go_wp2_with (at_builtin; go_must (refine app1T rfl _ _ rfl w.heap.size _ _ _ _ (Lib.itoa b) O4.out rfl rfl (by simp [wds]) hsz4 ?_; intro v' w5 ho hg))
        have B5 : Later w w5 := Below.grown B4.out hg hsz4 (fun j hj => (O4.out.lt j hj).1)
        go_roundw
        case rel => exact ⟨4, rfl, by omega, ho, B5⟩
        case measure => simp [intOf]
      · go_wp2_with fail
        refine (i_Format c (hfn.out 5).1 (hfn.out 5).2 _ T3.out).mono ?_
        rintro e w4 ⟨rfl, hb4⟩
        have B4 := Lib.hid (Later.trans B3.out hb4)
        have O4 := Lib.hid (O3.out.later hb4)
        clear hb4
        have hsz4 : w.heap.size ≤ w4.heap.size := B4.out.size
        go_wp2_with (at_builtin; go_must (refine app1T rfl _ _ rfl w.heap.size _ _ _ _ (Lib.itoa c) O4.out rfl rfl (by simp [wds]) hsz4 ?_; intro v' w5 ho hg))
        have B5 : Later w w5 := Below.grown B4.out hg hsz4 (fun j hj => (O4.out.lt j hj).1)
        go_roundw
        case rel => exact ⟨5, rfl, by omega, ho, B5⟩
        case measure => simp [intOf]
      · go_wp2_with fail
        refine (i_Format d (hfn.out 6).1 (hfn.out 6).2 _ T3.out).mono ?_
        rintro e w4 ⟨rfl, hb4⟩
        have B4 := Lib.hid (Later.trans B3.out hb4)
        have O4 := Lib.hid (O3.out.later hb4)
        clear hb4
        have hsz4 : w.heap.size ≤ w4.heap.size := B4.out.size
        go_wp2_with (at_builtin; go_must (refine app1T rfl _ _ rfl w.heap.size _ _ _ _ (Lib.itoa d) O4.out rfl rfl (by simp [wds]) hsz4 ?_; intro v' w5 ho hg))
        have B5 : Later w w5 := Below.grown B4.out hg hsz4 (fun j hj => (O4.out.lt j hj).1)
        go_roundw
        case rel => exact ⟨6, rfl, by omega, ho, B5⟩
        case measure => simp [intOf]
    · obtain rfl : k = 6 := by omega
      obtain ⟨g, cap, rfl, hc1, hg, hb0, hcell⟩ := O3.out.row (by simp [wds])
      have HC := Lib.hid hcell
      clear hcell h6 hk
      go_wp2_with fail
      refine (i_JoinW ⟨3, l, r, a, b, c, d⟩ HIN.out g cap _ hg hc1 HC.out).mono ?_
      rintro e w4 ⟨rfl, hb4⟩
      have B4 := Lib.hid (Later.trans B3.out hb4)
      clear hb4
      go_wp2_with fail
      go_ret
      exact ⟨rfl, B4.out⟩
theorem i_name4 (w : World) : Calls Tryz.prog 119 #[.agg #[]] w (fun e w' => e = .returned (.string (tx (kNm 4))) ∧ Later w w') := by
  go_enter Tryz.func119, Tryz.ntmps119
  go_wp2_with fail
  go_ret
  exact ⟨rfl, (Later.refl _).alloc _⟩
theorem i_kindOf4 (w : World) : Calls Tryz.prog 34 #[.int .i64 4] w fun e w' => e = .returned (.tuple #[.iface 96 (.agg #[]), .bool true]) ∧ w = w' := i_kindOf 4 rfl w
theorem i_segmentText4 (l r a b c d : Int) (hin : Sg.In ⟨4, l, r, a, b, c, d⟩) (w : World) (ht : Tab w) : Calls Tryz.prog 17 #[.agg #[.int .i64 4, .int .i64 l, .int .i64 r, .int .i64 a, .int .i64 b, .int .i64 c, .int .i64 d]] w (Texts w (segTx ⟨4, l, r, a, b, c, d⟩)) := by
  have HT := Lib.hid ht
  clear ht
  have ix0 : ∀ W, (Instr.index 69 (.agg #[.int .i64 l, .int .i64 r, .int .i64 a, .int .i64 b, .int .i64 c, .int .i64 d]) (.int .i64 0)).run Tryz.prog W = .ok (.int .i64 l) W := fun _ => by kernel_rfl
  have ix1 : ∀ W, (Instr.index 69 (.agg #[.int .i64 l, .int .i64 r, .int .i64 a, .int .i64 b, .int .i64 c, .int .i64 d]) (.int .i64 1)).run Tryz.prog W = .ok (.int .i64 r) W := fun _ => by kernel_rfl
  have ix2 : ∀ W, (Instr.index 69 (.agg #[.int .i64 l, .int .i64 r, .int .i64 a, .int .i64 b, .int .i64 c, .int .i64 d]) (.int .i64 2)).run Tryz.prog W = .ok (.int .i64 a) W := fun _ => by kernel_rfl
  have ix3 : ∀ W, (Instr.index 69 (.agg #[.int .i64 l, .int .i64 r, .int .i64 a, .int .i64 b, .int .i64 c, .int .i64 d]) (.int .i64 3)).run Tryz.prog W = .ok (.int .i64 b) W := fun _ => by kernel_rfl
  have ix4 : ∀ W, (Instr.index 69 (.agg #[.int .i64 l, .int .i64 r, .int .i64 a, .int .i64 b, .int .i64 c, .int .i64 d]) (.int .i64 4)).run Tryz.prog W = .ok (.int .i64 c) W := fun _ => by kernel_rfl
  have ix5 : ∀ W, (Instr.index 69 (.agg #[.int .i64 l, .int .i64 r, .int .i64 a, .int .i64 b, .int .i64 c, .int .i64 d]) (.int .i64 5)).run Tryz.prog W = .ok (.int .i64 d) W := fun _ => by kernel_rfl
  go_enter Tryz.func17, Tryz.ntmps17
  go_wp2_with fail
  refine (i_kindOf4 _).mono ?_
  rintro e w' ⟨rfl, rfl⟩
  go_wp2_with fail
  refine (i_name4 _).mono ?_
  rintro e w1 ⟨rfl, hb⟩
  have B1 := Lib.hid ((((Later.refl w).alloc _).trans hb : Later w w1))
  obtain ⟨H, hcc, hff, hzz⟩ := later_facts hb
  clear hb
  (try simp at hzz)
  have hz0 : w.heap.size < w1.heap.size := (by omega)
  go_wp2_with fail
  have ho := ownT_one w1 w.heap.size B1.out.size (kNm 4)
  have O2 := Lib.hid ho
  clear ho
  have hfn : Hid (∀ j, -9223372036854775808 ≤ (Sg.mk 4 l r a b c d).at j ∧ (Sg.mk 4 l r a b c d).at j ≤ 9223372036854775807) := Lib.hid hin
  have HIN := Lib.hid hin
  clear hcc hff hin
  go_loopw [5, 36] (fun v i wr => ∃ (k : Nat), i = .int .i64 k ∧ k ≤ 6 ∧ OwnT wr w.heap.size v ((wds ⟨4, l, r, a, b, c, d⟩).take (k + 1)) ∧ Later w wr) (fun _ i _ => 6 - (intOf i).toNat)
  case atStart => exact ⟨0, rfl, by omega, O2.out, B1.out.alloc _⟩
  case round =>
    obtain ⟨k, rfl, hk, ho, hb⟩ := hrel
    have O3 := Lib.hid ho; have B3 := Lib.hid hb
    have T3 := Lib.hid (HT.out.later hb)
    clear ho hb O2 B1
    by_cases h6 : k < 6
    · have h5 : k = 0 ∨ k = 1 ∨ k = 2 ∨ k = 3 ∨ k = 4 ∨ k = 5 := by omega
      clear h6 hk
      rcases h5 with rfl | rfl | rfl | rfl | rfl | rfl
      · go_wp2_with fail
        refine (i_Format l (hfn.out 1).1 (hfn.out 1).2 _ T3.out).mono ?_
        rintro e w4 ⟨rfl, hb4⟩
        have B4 := Lib.hid (Later.trans B3.out hb4)
        have O4 := Lib.hid (O3.out.later hb4)
        clear hb4
        have hsz4 : w.heap.size ≤ w4.heap.size := B4.out.size
        go_wp2_with (at_builtin; go_must (refine app1T rfl _ _ rfl w.heap.size _ _ _ _ (Lib.itoa l) O4.out rfl rfl (by simp [wds]) hsz4 ?_; intro v' w5 ho hg))
        have B5 : Later w w5 := Below.grown B4.out hg hsz4 (fun j hj => (O4.out.lt j hj).1)
        go_roundw
        case rel => exact ⟨1, rfl, by omega, ho, B5⟩
        case measure => simp [intOf]
      · go_wp2_with fail
        refine (i_Format r (hfn.out 2).1 (hfn.out 2).2 _ T3.out).mono ?_
        rintro e w4 ⟨rfl, hb4⟩
        have B4 := Lib.hid (Later.trans B3.out hb4)
        have O4 := Lib.hid (O3.out.later hb4)
        clear hb4
        have hsz4 : w.heap.size ≤ w4.heap.size := B4.out.size
        go_wp2_with (at_builtin; go_must (refine app1T rfl _ _ rfl w.heap.size _ _ _ _ (Lib.itoa r) O4.out rfl rfl (by simp [wds]) hsz4 ?_; intro v' w5 ho hg))
        have B5 : Later w w5 := Below.grown B4.out hg hsz4 (fun j hj => (O4.out.lt j hj).1)
        go_roundw
        case rel => exact ⟨2, rfl, by omega, ho, B5⟩
        case measure => simp [intOf]
      · go_wp2_with fail
        refine (i_Format a (hfn.out 3).1 (hfn.out 3).2 _ T3.out).mono ?_
        rintro e w4 ⟨rfl, hb4⟩
        have B4 := Lib.hid (Later.trans B3.out hb4)
        have O4 := Lib.hid (O3.out.later hb4)
        clear hb4
        have hsz4 : w.heap.size ≤ w4.heap.size := B4.out.size
        go_wp2_with (at_builtin; go_must (refine app1T rfl _ _ rfl w.heap.size _ _ _ _ (Lib.itoa a) O4.out rfl rfl (by simp [wds]) hsz4 ?_; intro v' w5 ho hg))
        have B5 : Later w w5 := Below.grown B4.out hg hsz4 (fun j hj => (O4.out.lt j hj).1)
        go_roundw
        case rel => exact ⟨3, rfl, by omega, ho, B5⟩
        case measure => simp [intOf]
      · go_wp2_with fail
        refine (i_Format b (hfn.out 4).1 (hfn.out 4).2 _ T3.out).mono ?_
        rintro e w4 ⟨rfl, hb4⟩
        have B4 := Lib.hid (Later.trans B3.out hb4)
        have O4 := Lib.hid (O3.out.later hb4)
        clear hb4
        have hsz4 : w.heap.size ≤ w4.heap.size := B4.out.size
        go_wp2_with (at_builtin; go_must (refine app1T rfl _ _ rfl w.heap.size _ _ _ _ (Lib.itoa b) O4.out rfl rfl (by simp [wds]) hsz4 ?_; intro v' w5 ho hg))
        have B5 : Later w w5 := Below.grown B4.out hg hsz4 (fun j hj => (O4.out.lt j hj).1)
        go_roundw
        case rel => exact ⟨4, rfl, by omega, ho, B5⟩
        case measure => simp [intOf]
      · go_wp2_with fail
        refine (i_Format c (hfn.out 5).1 (hfn.out 5).2 _ T3.out).mono ?_
        rintro e w4 ⟨rfl, hb4⟩
        have B4 := Lib.hid (Later.trans B3.out hb4)
        have O4 := Lib.hid (O3.out.later hb4)
        clear hb4
        have hsz4 : w.heap.size ≤ w4.heap.size := B4.out.size
        go_wp2_with (at_builtin; go_must (refine app1T rfl _ _ rfl w.heap.size _ _ _ _ (Lib.itoa c) O4.out rfl rfl (by simp [wds]) hsz4 ?_; intro v' w5 ho hg))
        have B5 : Later w w5 := Below.grown B4.out hg hsz4 (fun j hj => (O4.out.lt j hj).1)
        go_roundw
        case rel => exact ⟨5, rfl, by omega, ho, B5⟩
        case measure => simp [intOf]
      · go_wp2_with fail
        refine (i_Format d (hfn.out 6).1 (hfn.out 6).2 _ T3.out).mono ?_
        rintro e w4 ⟨rfl, hb4⟩
        have B4 := Lib.hid (Later.trans B3.out hb4)
        have O4 := Lib.hid (O3.out.later hb4)
        clear hb4
        have hsz4 : w.heap.size ≤ w4.heap.size := B4.out.size
        go_wp2_with (at_builtin; go_must (refine app1T rfl _ _ rfl w.heap.size _ _ _ _ (Lib.itoa d) O4.out rfl rfl (by simp [wds]) hsz4 ?_; intro v' w5 ho hg))
        have B5 : Later w w5 := Below.grown B4.out hg hsz4 (fun j hj => (O4.out.lt j hj).1)
        go_roundw
        case rel => exact ⟨6, rfl, by omega, ho, B5⟩
        case measure => simp [intOf]
    · obtain rfl : k = 6 := by omega
      obtain ⟨g, cap, rfl, hc1, hg, hb0, hcell⟩ := O3.out.row (by simp [wds])
      have HC := Lib.hid hcell
      clear hcell h6 hk
      go_wp2_with fail
      refine (i_JoinW ⟨4, l, r, a, b, c, d⟩ HIN.out g cap _ hg hc1 HC.out).mono ?_
      rintro e w4 ⟨rfl, hb4⟩
      have B4 := Lib.hid (Later.trans B3.out hb4)
      clear hb4
      go_wp2_with fail
      go_ret
      exact ⟨rfl, B4.out⟩
theorem i_segmentText (x : Sg) (hin : x.In) (hk : kndB x.k = true) (w : World) (ht : Tab w) : Calls Tryz.prog 17 #[.agg #[.int .i64 x.k, .int .i64 x.l, .int .i64 x.r, .int .i64 x.a, .int .i64 x.b, .int .i64 x.c, .int .i64 x.d]] w (Texts w (segTx x)) := by
  obtain ⟨k, l, r, a, b, c, d⟩ := x
  rcases kinds hk with h | h | h | h | h
  all_goals
    (replace h : k = _ := h; subst h)
  · exact i_segmentText0 l r a b c d hin w ht
  · exact i_segmentText1 l r a b c d hin w ht
  · exact i_segmentText2 l r a b c d hin w ht
  · exact i_segmentText3 l r a b c d hin w ht
  · exact i_segmentText4 l r a b c d hin w ht
end Go.Proofs.YtkhhoajoionlfaaGreatDoor
