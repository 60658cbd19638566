/- Tokens, of the program: kinds and first parts. -/
import Derived.Test.YtggnhdeldmkdmaaGreatDoorTkJ
namespace Go.Proofs.YtggnhdeldmkdmaaGreatDoor
open Go.RowKit Go.Shelf
set_option maxHeartbeats 2000000
set_option linter.unusedVariables false
set_option linter.unusedSimpArgs false
theorem sgn_one (c : UInt8) : decide (0 ≤ Lib.indexByte [61, 40, 41, 44, 59] c) = sgnB [c] := by
  simp only [Lib.indexByte, sgnB]
  by_cases h1 : c = 61
  · subst h1; rfl
  · by_cases h2 : c = 40
    · subst h2; rfl
    · by_cases h3 : c = 41
      · subst h3; rfl
      · by_cases h4 : c = 44
        · subst h4; rfl
        · by_cases h5 : c = 59
          · subst h5; rfl
          · have g1 : ((61 : UInt8) == c) = false := by simpa using fun h => h1 h.symm
            have g2 : ((40 : UInt8) == c) = false := by simpa using fun h => h2 h.symm
            have g3 : ((41 : UInt8) == c) = false := by simpa using fun h => h3 h.symm
            have g4 : ((44 : UInt8) == c) = false := by simpa using fun h => h4 h.symm
            have g5 : ((59 : UInt8) == c) = false := by simpa using fun h => h5 h.symm
            simp [h1, h2, h3, h4, h5, g1, g2, g3, g4, g5, Ne.symm]
theorem i_tokenKind (s : ByteArray) (w : World) (hs : s.size ≤ 1048576) (hW : Wst w) : Calls Tryz.prog 85 #[.string s] w fun e w' => e = .returned (.int .i64 (kdB s.data.toList : Nat)) ∧ Later w w' := by
  obtain ⟨l, hl⟩ : ∃ l, l = s.data.toList := ⟨_, rfl⟩
  have hlen : l.length = s.size := by rw [hl]; rfl
  have IW := Lib.hid (i_isWord s)
  have IC := Lib.hid (i_isCount s)
  have HW := Lib.hid hW
  have HL := Lib.hid hl
  rw [← hl] at IW IC ⊢
  clear hW hl
  cases h1 : wrdB l
  · cases h2 : numB l
    · by_cases h3 : s.size = 1
      · obtain ⟨c, hc⟩ : ∃ c, l = [c] := List.length_eq_one_iff.1 (by omega)
        have hs1 : s = ⟨#[c]⟩ := by
          apply ByteArray.ext
          apply Array.toList_inj.1
          rw [← HL.out, hc]
        have hk : kdB l = if sgnB [c] = true then 3 else 0 := by
          unfold kdB; rw [h1, h2, hc]; simp
        rw [hk, ← sgn_one]
        rw [h1] at IW; rw [h2] at IC
        clear h1 h2 h3 hk hc hlen
        subst hs1
        have CT := Lib.hid (fun W => Any.strings_Contains_one Tryz.lays144 ⟨#[61, 40, 41, 44, 59]⟩ c W)
        have hz : ByteArray.size ⟨#[c]⟩ = 1 := rfl
        cases hb : decide (0 ≤ Lib.indexByte [61, 40, 41, 44, 59] c)
        all_goals
          have HB : Hid (decide (0 ≤ Lib.indexByte (ByteArray.mk #[61, 40, 41, 44, 59]).data.toList c) = _) := Lib.hid hb
          clear hb
          go_enter Tryz.func85, Tryz.ntmps85
          go_wp2_with (first | (go_at_call 107; refine (IW.out _ (by omega)).mono ?_; rintro e w1 ⟨rfl, hb⟩; have B1 := Lib.hid hb; clear hb) | (go_at_call 122; refine (IC.out _ (by omega) (HW.out.later B1.out)).mono ?_; rintro e w2 ⟨rfl, hb⟩; have B2 := Lib.hid (Later.trans B1.out hb); clear hb) | (go_at_call 123; refine (CT.out _).mono ?_; rintro e w3 ⟨rfl, rfl⟩; rw [HB.out]))
          all_goals
            go_ret
            exact ⟨rfl, B2.out⟩
      · have hk : kdB l = 0 := by
          unfold kdB; rw [h1, h2]
          have : sgnB l = false := by
            cases hh : sgnB l with
            | false => rfl
            | true => obtain ⟨b, rfl, _⟩ := sgn_head hh; simp at hlen; omega
          rw [this]; rfl
        rw [hk]
        rw [h1] at IW; rw [h2] at IC
        have h3' : ((s.size : Int) == 1) = false := by simp; omega
        clear h1 h2 h3 hk
        go_enter Tryz.func85, Tryz.ntmps85
        go_wp2_with (first | (go_at_call 107; refine (IW.out _ (by omega)).mono ?_; rintro e w1 ⟨rfl, hb⟩; have B1 := Lib.hid hb; clear hb) | (go_at_call 122; refine (IC.out _ (by omega) (HW.out.later B1.out)).mono ?_; rintro e w2 ⟨rfl, hb⟩; have B2 := Lib.hid (Later.trans B1.out hb); clear hb))
        all_goals
          go_ret
          exact ⟨rfl, B2.out⟩
    · have hk : kdB l = 2 := by unfold kdB; rw [h1, h2]; rfl
      rw [hk]
      rw [h1] at IW; rw [h2] at IC
      clear h1 h2 hk
      go_enter Tryz.func85, Tryz.ntmps85
      go_wp2_with (first | (go_at_call 107; refine (IW.out _ (by omega)).mono ?_; rintro e w1 ⟨rfl, hb⟩; have B1 := Lib.hid hb; clear hb) | (go_at_call 122; refine (IC.out _ (by omega) (HW.out.later B1.out)).mono ?_; rintro e w2 ⟨rfl, hb⟩; have B2 := Lib.hid (Later.trans B1.out hb); clear hb))
      all_goals
        go_ret
        exact ⟨rfl, B2.out⟩
  · have hk : kdB l = 1 := by unfold kdB; rw [h1]; rfl
    rw [hk]
    rw [h1] at IW
    clear h1 hk
    go_enter Tryz.func85, Tryz.ntmps85
    go_wp2_with (go_at_call 107; refine (IW.out _ (by omega)).mono ?_; rintro e w1 ⟨rfl, hb⟩; have B1 := Lib.hid hb; clear hb)
    all_goals
      go_ret
      exact ⟨rfl, B1.out⟩
theorem ext_tx (s : ByteArray) (a b : Nat) : s.extract a b = tx ((s.data.toList.drop a).take (b - a)) := by
  apply ByteArray.ext
  apply Array.toList_inj.1
  rw [Lib.extract_data]; rfl
theorem i_firstPart (s : ByteArray) (w : World) (hs : s.size ≤ 1048576) (h0 : 1 ≤ s.size) : Calls Tryz.prog 151 #[.string s] w fun e w' => e = .returned (.string (tx (prt s.data.toList))) ∧ Later w w' := by
  obtain ⟨l, hl⟩ : ∃ l, l = s.data.toList := ⟨_, rfl⟩
  have hlen : l.length = s.size := by rw [hl]; rfl
  have WL := Lib.hid (i_wordLength s)
  have EX := Lib.hid (ext_tx s 0)
  have hw := wln_le l
  rw [← hl] at WL EX ⊢
  have P : Hid (prt l = l.take (max (wln l) 1)) := Lib.hid rfl
  obtain ⟨n, hn⟩ : ∃ n, n = wln l := ⟨_, rfl⟩
  rw [← hn] at WL P hw
  clear hl hn
  rcases (show n = 0 ∨ 1 ≤ n by omega) with h1 | h1
  · subst h1
    go_enter Tryz.func151, Tryz.ntmps151
    go_wp2_with (go_at_call 137; refine (WL.out _ (by omega)).mono ?_; rintro e w1 ⟨rfl, hb⟩; have B1 := Lib.hid hb; clear hb)
    go_ret
    refine ⟨congrArg (fun t => Ending.returned (.string t)) ?_, B1.out⟩
    rw [EX.out, P.out]; rfl
  · have hm : max (n : Int) 1 = (n : Int) := by omega
    have hm2 : (1 : Int) ≤ n := by omega
    have HP : Hid (prt l = l.take n) := Lib.hid (by rw [P.out, show max n 1 = n by omega])
    have HM := Lib.hid hm
    clear hm
    go_enter Tryz.func151, Tryz.ntmps151
    go_wp2_with (go_at_call 137; refine (WL.out _ (by omega)).mono ?_; rintro e w1 ⟨rfl, hb⟩; have B1 := Lib.hid hb; clear hb)
    go_ret
    refine ⟨congrArg (fun t => Ending.returned (.string t)) ?_, B1.out⟩
    rw [EX.out, HP.out, HM.out]; rfl
end Go.Proofs.YtggnhdeldmkdmaaGreatDoor
