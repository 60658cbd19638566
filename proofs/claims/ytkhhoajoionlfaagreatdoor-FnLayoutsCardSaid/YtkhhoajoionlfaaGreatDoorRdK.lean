/- The kind that a word names, of the program. -/
import Derived.Test.YtkhhoajoionlfaaGreatDoorTxI
import Derived.Test.YtkhhoajoionlfaaGreatDoorRdM
namespace Go.Proofs.YtkhhoajoionlfaaGreatDoor
open Go.RowKit Go.Shelf
set_option maxHeartbeats 4000000
set_option linter.unusedVariables false
set_option linter.unusedSimpArgs false
/-- what the word names -/
def KNd (l : List UInt8) (y : Int) (b : Bool) : Prop := 0 ≤ y ∧ y ≤ 4 ∧ ∀ k, kndB k = true → l = kNm k → y = k ∧ b = true
theorem i_kindNamed (s : ByteArray) (w : World) : Calls Tryz.prog 38 #[.string s] w (fun e w' => Later w w' ∧ ∃ y b, KNd s.data.toList y b ∧ e = .returned (.tuple #[.int .i64 y, .bool b])) := by
  obtain ⟨l, hl⟩ : ∃ l, l = s.data.toList := ⟨_, rfl⟩
  rw [← hl]
  have HL := Lib.hid hl
  clear hl
  go_enter Tryz.func38, Tryz.ntmps38
  go_wp2_with fail
  go_loopw [4] (fun i wr => ∃ k : Nat, i = .int .i64 k ∧ k ≤ 5 ∧ Hid (∀ j : Int, 0 ≤ j → j < k → l ≠ kNm j) ∧ Later w wr) (fun i _ => 5 - (intOf i).toNat)
  case atStart => exact ⟨0, rfl, by omega, Lib.hid (fun j h1 h2 => by omega), (by repeat (first | (with_reducible exact Later.refl _) | (with_reducible refine Later.drew ?_)))⟩
  case round =>
    obtain ⟨k, rfl, hk5, HK, hb⟩ := hrel
    have B5 := Lib.hid hb
    clear hb
    by_cases hk : k < 5
    · have h5 : k = 0 ∨ k = 1 ∨ k = 2 ∨ k = 3 ∨ k = 4 := by omega
      clear hk hk5
      rcases h5 with rfl | rfl | rfl | rfl | rfl
      · by_cases hq : l = kNm 0
        · have e1 : ((tx (kNm 0)).toList == s.toList) = true := by
            rw [Lib.toList_data, Lib.toList_data, ← HL.out, hq]; simp [tx]
          have HX : Hid (KNd l 0 true) := Lib.hid ⟨by omega, by omega, fun j hj h => ⟨kNm_inj rfl hj (by rw [← hq, h]), rfl⟩⟩
          clear hq
          go_wp2_with fail
          refine (i_kindOf0 _).mono ?_
          rintro e w2 ⟨rfl, rfl⟩
          go_wp2_with fail
          refine (i_name0 _).mono ?_
          rintro e w3 ⟨rfl, hb3⟩
          have B3 := Lib.hid (Later.trans B5.out hb3)
          clear hb3
          go_wp2_with fail
          go_ret2
          exact ⟨by first | exact B3.out | exact B3.out.drew, _, _, HX.out, rfl⟩
        · have e1 : ((tx (kNm 0)).toList == s.toList) = false := by
            rw [Lib.toList_data, Lib.toList_data, ← HL.out]
            show (kNm 0 == l) = false
            simpa using fun h => hq h.symm
          have HK' : Hid (∀ j : Int, 0 ≤ j → j < ((0 + 1 : Nat) : Int) → l ≠ kNm j) := Lib.hid (fun j h1 h2 => by
            by_cases hj : j = 0
            · rw [hj]; exact hq
            · exact HK.out j h1 (by omega))
          clear hq
          go_wp2_with fail
          refine (i_kindOf0 _).mono ?_
          rintro e w2 ⟨rfl, rfl⟩
          go_wp2_with fail
          refine (i_name0 _).mono ?_
          rintro e w3 ⟨rfl, hb3⟩
          have B3 := Lib.hid (Later.trans B5.out hb3)
          clear hb3
          go_wp2_with fail
          go_roundw
          case rel => exact ⟨0 + 1, by go_num, by omega, HK', by first | exact B3.out | exact B3.out.drew⟩
          case measure => simp [intOf]
      · by_cases hq : l = kNm 1
        · have e1 : ((tx (kNm 1)).toList == s.toList) = true := by
            rw [Lib.toList_data, Lib.toList_data, ← HL.out, hq]; simp [tx]
          have HX : Hid (KNd l 1 true) := Lib.hid ⟨by omega, by omega, fun j hj h => ⟨kNm_inj rfl hj (by rw [← hq, h]), rfl⟩⟩
          clear hq
          go_wp2_with fail
          refine (i_kindOf1 _).mono ?_
          rintro e w2 ⟨rfl, rfl⟩
          go_wp2_with fail
          refine (i_name1 _).mono ?_
          rintro e w3 ⟨rfl, hb3⟩
          have B3 := Lib.hid (Later.trans B5.out hb3)
          clear hb3
          go_wp2_with fail
          go_ret2
          exact ⟨by first | exact B3.out | exact B3.out.drew, _, _, HX.out, rfl⟩
        · have e1 : ((tx (kNm 1)).toList == s.toList) = false := by
            rw [Lib.toList_data, Lib.toList_data, ← HL.out]
            show (kNm 1 == l) = false
            simpa using fun h => hq h.symm
          have HK' : Hid (∀ j : Int, 0 ≤ j → j < ((1 + 1 : Nat) : Int) → l ≠ kNm j) := Lib.hid (fun j h1 h2 => by
            by_cases hj : j = 1
            · rw [hj]; exact hq
            · exact HK.out j h1 (by omega))
          clear hq
          go_wp2_with fail
          refine (i_kindOf1 _).mono ?_
          rintro e w2 ⟨rfl, rfl⟩
          go_wp2_with fail
          refine (i_name1 _).mono ?_
          rintro e w3 ⟨rfl, hb3⟩
          have B3 := Lib.hid (Later.trans B5.out hb3)
          clear hb3
          go_wp2_with fail
          go_roundw
          case rel => exact ⟨1 + 1, by go_num, by omega, HK', by first | exact B3.out | exact B3.out.drew⟩
          case measure => simp [intOf]
      · by_cases hq : l = kNm 2
        · have e1 : ((tx (kNm 2)).toList == s.toList) = true := by
            rw [Lib.toList_data, Lib.toList_data, ← HL.out, hq]; simp [tx]
          have HX : Hid (KNd l 2 true) := Lib.hid ⟨by omega, by omega, fun j hj h => ⟨kNm_inj rfl hj (by rw [← hq, h]), rfl⟩⟩
          clear hq
          go_wp2_with fail
          refine (i_kindOf2 _).mono ?_
          rintro e w2 ⟨rfl, rfl⟩
          go_wp2_with fail
          refine (i_name2 _).mono ?_
          rintro e w3 ⟨rfl, hb3⟩
          have B3 := Lib.hid (Later.trans B5.out hb3)
          clear hb3
          go_wp2_with fail
          go_ret2
          exact ⟨by first | exact B3.out | exact B3.out.drew, _, _, HX.out, rfl⟩
        · have e1 : ((tx (kNm 2)).toList == s.toList) = false := by
            rw [Lib.toList_data, Lib.toList_data, ← HL.out]
            show (kNm 2 == l) = false
            simpa using fun h => hq h.symm
          have HK' : Hid (∀ j : Int, 0 ≤ j → j < ((2 + 1 : Nat) : Int) → l ≠ kNm j) := Lib.hid (fun j h1 h2 => by
            by_cases hj : j = 2
            · rw [hj]; exact hq
            · exact HK.out j h1 (by omega))
          clear hq
          go_wp2_with fail
          refine (i_kindOf2 _).mono ?_
          rintro e w2 ⟨rfl, rfl⟩
          go_wp2_with fail
          refine (i_name2 _).mono ?_
          rintro e w3 ⟨rfl, hb3⟩
          have B3 := Lib.hid (Later.trans B5.out hb3)
          clear hb3
          go_wp2_with fail
          go_roundw
          case rel => exact ⟨2 + 1, by go_num, by omega, HK', by first | exact B3.out | exact B3.out.drew⟩
          case measure => simp [intOf]
      · by_cases hq : l = kNm 3
        · have e1 : ((tx (kNm 3)).toList == s.toList) = true := by
            rw [Lib.toList_data, Lib.toList_data, ← HL.out, hq]; simp [tx]
          have HX : Hid (KNd l 3 true) := Lib.hid ⟨by omega, by omega, fun j hj h => ⟨kNm_inj rfl hj (by rw [← hq, h]), rfl⟩⟩
          clear hq
          go_wp2_with fail
          refine (i_kindOf3 _).mono ?_
          rintro e w2 ⟨rfl, rfl⟩
          go_wp2_with fail
          refine (i_name3 _).mono ?_
          rintro e w3 ⟨rfl, hb3⟩
          have B3 := Lib.hid (Later.trans B5.out hb3)
          clear hb3
          go_wp2_with fail
          go_ret2
          exact ⟨by first | exact B3.out | exact B3.out.drew, _, _, HX.out, rfl⟩
        · have e1 : ((tx (kNm 3)).toList == s.toList) = false := by
            rw [Lib.toList_data, Lib.toList_data, ← HL.out]
            show (kNm 3 == l) = false
            simpa using fun h => hq h.symm
          have HK' : Hid (∀ j : Int, 0 ≤ j → j < ((3 + 1 : Nat) : Int) → l ≠ kNm j) := Lib.hid (fun j h1 h2 => by
            by_cases hj : j = 3
            · rw [hj]; exact hq
            · exact HK.out j h1 (by omega))
          clear hq
          go_wp2_with fail
          refine (i_kindOf3 _).mono ?_
          rintro e w2 ⟨rfl, rfl⟩
          go_wp2_with fail
          refine (i_name3 _).mono ?_
          rintro e w3 ⟨rfl, hb3⟩
          have B3 := Lib.hid (Later.trans B5.out hb3)
          clear hb3
          go_wp2_with fail
          go_roundw
          case rel => exact ⟨3 + 1, by go_num, by omega, HK', by first | exact B3.out | exact B3.out.drew⟩
          case measure => simp [intOf]
      · by_cases hq : l = kNm 4
        · have e1 : ((tx (kNm 4)).toList == s.toList) = true := by
            rw [Lib.toList_data, Lib.toList_data, ← HL.out, hq]; simp [tx]
          have HX : Hid (KNd l 4 true) := Lib.hid ⟨by omega, by omega, fun j hj h => ⟨kNm_inj rfl hj (by rw [← hq, h]), rfl⟩⟩
          clear hq
          go_wp2_with fail
          refine (i_kindOf4 _).mono ?_
          rintro e w2 ⟨rfl, rfl⟩
          go_wp2_with fail
          refine (i_name4 _).mono ?_
          rintro e w3 ⟨rfl, hb3⟩
          have B3 := Lib.hid (Later.trans B5.out hb3)
          clear hb3
          go_wp2_with fail
          go_ret2
          exact ⟨by first | exact B3.out | exact B3.out.drew, _, _, HX.out, rfl⟩
        · have e1 : ((tx (kNm 4)).toList == s.toList) = false := by
            rw [Lib.toList_data, Lib.toList_data, ← HL.out]
            show (kNm 4 == l) = false
            simpa using fun h => hq h.symm
          have HK' : Hid (∀ j : Int, 0 ≤ j → j < ((4 + 1 : Nat) : Int) → l ≠ kNm j) := Lib.hid (fun j h1 h2 => by
            by_cases hj : j = 4
            · rw [hj]; exact hq
            · exact HK.out j h1 (by omega))
          clear hq
          go_wp2_with fail
          refine (i_kindOf4 _).mono ?_
          rintro e w2 ⟨rfl, rfl⟩
          go_wp2_with fail
          refine (i_name4 _).mono ?_
          rintro e w3 ⟨rfl, hb3⟩
          have B3 := Lib.hid (Later.trans B5.out hb3)
          clear hb3
          go_wp2_with fail
          go_roundw
          case rel => exact ⟨4 + 1, by go_num, by omega, HK', by first | exact B3.out | exact B3.out.drew⟩
          case measure => simp [intOf]
    · obtain rfl : k = 5 := by omega
      have HN : Hid (KNd l 0 false) := Lib.hid ⟨by omega, by omega, fun j hj h => by
        unfold kndB at hj
        simp at hj
        exact absurd h (HK.out j hj.1 (by omega))⟩
      clear hk
      go_wp2_with fail
      go_ret2
      exact ⟨by first | exact B5.out | exact B5.out.drew, _, _, HN.out, rfl⟩
end Go.Proofs.YtkhhoajoionlfaaGreatDoor
