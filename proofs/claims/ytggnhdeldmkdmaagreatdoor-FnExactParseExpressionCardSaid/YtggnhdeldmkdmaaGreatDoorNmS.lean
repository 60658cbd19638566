/- Numbers read strictly, by the model: l01Value, l01Signed. -/
import Derived.Test.YtggnhdeldmkdmaaGreatDoorNmM
import Derived.Test.YtggnhdeldmkdmaaGreatDoorTx0
import Derived.Test.YtggnhdeldmkdmaaGreatDoorLater
namespace Go.Proofs.YtggnhdeldmkdmaaGreatDoor
open Go.RowKit Go.Shelf
set_option maxHeartbeats 4000000
set_option linter.unusedVariables false
set_option linter.unusedSimpArgs false
def ReadsN (w : World) (l : List UInt8) (e : Ending) (w' : World) : Prop :=
  Later w w' ∧ ((∃ m : Nat, m < 1000000000000 ∧ Lib.decDigits m = l ∧ e = .returned (.tuple #[.int .i64 m, .bool true])) ∨ (¬ IsN l ∧ ∃ m : Nat, m < 1000000000000 ∧ e = .returned (.tuple #[.int .i64 m, .bool false])))
theorem s_DecX (x : Nat) (w : World) (h : x < 1000000000000) : Calls Tryz.prog 82 #[.int .i64 (x : Int)] w (Texts w (Lib.decDigits x)) := by
  have := s_Dec (x + 1) (x : Int) w (by omega) (by omega) (by omega)
  rwa [Int.toNat_natCast] at this
theorem s_Value (s : ByteArray) (w : World) (hs : s.size ≤ 1048576) : Calls Tryz.prog 128 #[.string s] w (ReadsN w s.data.toList) := by
  obtain ⟨l, hl⟩ : ∃ l, l = s.data.toList := ⟨_, rfl⟩
  have hlen : l.length = s.size := by rw [hl]; rfl
  rw [← hl]
  have HL := Lib.hid hl
  have HLEN := Lib.hid hlen
  have at_ : ∀ k (h : k < s.size), l[k]? = some s[k] := by
    intro k hk
    have hk' : k < s.data.toList.length := hk
    rw [hl, List.getElem?_eq_getElem hk']; rfl
  have AT := Lib.hid at_
  clear hl hlen at_
  by_cases hz : 1 ≤ s.size ∧ s.size ≤ 12
  · obtain ⟨z1, z2⟩ := hz
    go_enter Tryz.func128, Tryz.ntmps128
    go_wp2_with fail
    go_loopw [4, 5] (fun n i wr => ∃ (k : Nat), i = .int .i64 k ∧ k ≤ s.size ∧ n = .int .i64 (vl 0 (l.take k) : Nat) ∧ Hid (Digs (l.take k)) ∧ Later w wr) (fun _ i _ => s.size - (intOf i).toNat)
    case atStart => exact ⟨0, rfl, by omega, rfl, Lib.hid (by intro c hc; simp at hc), Later.refl _⟩
    case round =>
      obtain ⟨k, rfl, hk, rfl, HD, hb⟩ := hrel
      have B3 := Lib.hid hb
      clear hb
      by_cases hlt : k < s.size
      · have hkl : k < l.length := by rw [HLEN.out]; exact hlt
        have hget : l[k] = s[k] := by
          have h := AT.out k hlt
          rw [List.getElem?_eq_getElem hkl] at h
          exact Option.some.inj h
        have htk : Hid (l.take (k + 1) = l.take k ++ [s[k]]) := Lib.hid (by rw [List.take_succ_eq_append_getElem hkl, hget])
        have hx11 := vl_11 _ HD.out (by rw [List.length_take]; omega)
        have NXT : Hid (vl 0 (l.take (k + 1)) = vl 0 (l.take k) * 10 + (s[k].toNat - 48)) := Lib.hid (by rw [htk.out, vl_snoc])
        obtain ⟨x, hx⟩ : ∃ x, x = vl 0 (l.take k) := ⟨_, rfl⟩
        rw [← hx] at hx11 ⊢
        have HX := Lib.hid hx
        clear hx
        by_cases hd : 48 ≤ s[k].toNat ∧ s[k].toNat ≤ 57
        · obtain ⟨d0, d1⟩ := hd
          have D5 : Hid (Digs (l.take (k + 1))) := Lib.hid (by rw [htk.out]; exact digs_append HD.out (by intro c hc; simp at hc; rw [hc]; exact ⟨d0, d1⟩))
          clear hget
          go_wp2_with fail
          go_roundw
          case rel => exact ⟨k + 1, by go_num, by omega, by rw [NXT.out, ← HX.out]; go_num, D5, B3.out⟩
          case measure => simp [intOf]; omega
        · have HN : Hid (¬ IsN l) := Lib.hid (by
            intro h
            have h1 := (isN_vl h).1 s[k] (by rw [← hget]; exact List.getElem_mem _)
            exact hd h1)
          have hd' : s[k].toNat < 48 ∨ 57 < s[k].toNat := by omega
          clear hget hd
          rcases hd' with d0 | d0
          all_goals
            go_wp2_with fail
            go_ret2
            exact ⟨B3.out, .inr ⟨HN.out, 0, by omega, rfl⟩⟩
      · obtain rfl : k = s.size := by omega
        have htk : l.take s.size = l := List.take_of_length_le (by rw [HLEN.out]; omega)
        rw [htk] at HD ⊢
        have hx12 := vl_12 _ HD.out (by rw [HLEN.out]; omega)
        obtain ⟨x, hx⟩ : ∃ x, x = vl 0 l := ⟨_, rfl⟩
        rw [← hx] at hx12 ⊢
        have HX := Lib.hid hx
        clear hx htk
        go_wp2_with fail
        refine (s_DecX x _ hx12).mono ?_
        rintro e w4 ⟨rfl, hb4⟩
        have B4 := Lib.hid (Later.trans B3.out hb4)
        clear hb4
        by_cases hm : Lib.decDigits x = l
        · have hq : ((tx (Lib.decDigits x)).toList == s.toList) = true := by
            rw [Lib.toList_data, Lib.toList_data, ← HL.out]
            have e1 : (tx (Lib.decDigits x)).data.toList = Lib.decDigits x := rfl
            rw [e1, hm]; simp
          have HM := Lib.hid hm
          clear hm
          go_wp2_with fail
          go_ret2
          exact ⟨B4.out, .inl ⟨x, hx12, HM.out, rfl⟩⟩
        · have hq : ((tx (Lib.decDigits x)).toList == s.toList) = false := by
            rw [Lib.toList_data, Lib.toList_data, ← HL.out]
            have e1 : (tx (Lib.decDigits x)).data.toList = Lib.decDigits x := rfl
            rw [e1]; simp [hm]
          have HN : Hid (¬ IsN l) := Lib.hid (fun h => hm (by rw [HX.out]; exact (isN_vl h).2.1))
          clear hm
          go_wp2_with fail
          go_ret2
          exact ⟨B4.out, .inr ⟨HN.out, x, hx12, rfl⟩⟩
  · have HN : Hid (¬ IsN l) := Lib.hid (fun h => by have h1 := isN_vl h; rw [HLEN.out] at h1; exact hz ⟨h1.2.2.1, h1.2.2.2.1⟩)
    have hz' : s.size < 1 ∨ 12 < s.size := by omega
    clear hz
    rcases hz' with z | z
    all_goals
      go_enter Tryz.func128, Tryz.ntmps128
      go_wp2_with fail
      go_ret2
      exact ⟨Later.refl _, .inr ⟨HN.out, 0, by omega, rfl⟩⟩
def ReadsZ (w : World) (l : List UInt8) (e : Ending) (w' : World) : Prop :=
  Later w w' ∧ ((∃ n : Int, IsZ l n ∧ e = .returned (.tuple #[.int .i64 n, .bool true])) ∨ ((∀ n, ¬ IsZ l n) ∧ ∃ n : Int, e = .returned (.tuple #[.int .i64 n, .bool false])))
end Go.Proofs.YtggnhdeldmkdmaaGreatDoor
