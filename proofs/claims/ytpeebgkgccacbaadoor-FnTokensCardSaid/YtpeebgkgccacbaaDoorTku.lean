/- Tokens, of the model: comments stripped; the walk of the exact law on StripComments. -/
import Derived.Test.YtpeebgkgccacbaaDoorTkQ
import Derived.Test.YtpeebgkgccacbaaDoorTky
namespace Go.Proofs.YtpeebgkgccacbaaDoor
open Go.RowKit Go.Shelf
set_option maxHeartbeats 4000000
set_option maxRecDepth 100000
set_option linter.unusedVariables false
set_option linter.unusedSimpArgs false
theorem stp_10 (c : Bool) (b : UInt8) (t : List UInt8) (h : b.toNat = 10) : stp c (b :: t) = b :: stp false t := by simp only [stp, if_pos h]
theorem stp_35 (c : Bool) (b : UInt8) (t : List UInt8) (h : b.toNat = 35) : stp c (b :: t) = stp true t := by
  simp only [stp]; rw [if_neg (by omega), if_pos (.inl h)]
theorem stp_t (b : UInt8) (t : List UInt8) (h : b.toNat ≠ 10) : stp true (b :: t) = stp true t := by
  simp only [stp]; rw [if_neg h, if_pos (.inr trivial)]
theorem s_StripComments (s : ByteArray) (w : World) (hs : s.size ≤ 1048576) : Calls Tryd.prog 28 #[.string s] w fun e w' => e = .returned (.tuple #[.string (tx (scV s.data.toList)), .int .i64 (scE s.data.toList)]) ∧ Later w w' := by
  obtain ⟨l, hl⟩ : ∃ l, l = s.data.toList := ⟨_, rfl⟩
  have hlen : l.length = s.size := by rw [hl]; rfl
  have AT : Hid (∀ k (h : k < s.size), l.drop k = s[k] :: l.drop (k + 1)) := Lib.hid (by
    intro k hk
    have : l[k]'(by omega) = s[k] := by simp only [hl]; rfl
    rw [List.drop_eq_getElem_cons (show k < l.length by omega), this])
  rw [← hl]
  clear hl
  by_cases h1 : 6000 < s.size
  · have e1 : scE l = 3 := by unfold scE; rw [hlen, if_pos h1]
    have e2 : scV l = [] := by unfold scV; rw [hlen, if_pos h1]
    rw [e1, e2]
    go_enter Tryd.func28, Tryd.ntmps28
    go_wp2_with fail
    go_ret2
    exact ⟨rfl, Later.refl _⟩
  · have e1 : scE l = 0 := by unfold scE; rw [hlen, if_neg h1]
    have e2 : scV l = stp false l := by unfold scV; rw [hlen, if_neg h1]
    rw [e1, e2]
    have h1' : s.size ≤ 6000 := by omega
    obtain ⟨D, hDD⟩ : ∃ D, D = stp false l := ⟨_, rfl⟩
    have G0 : Hid ([] ++ stp false (l.drop 0) = D) := Lib.hid (by rw [hDD]; rfl)
    rw [← hDD]
    have O0 := Lib.hid (ownY_new w w.heap.size (Nat.le_refl _))
    clear h1 e1 e2 hDD
    go_enter Tryd.func28, Tryd.ntmps28
    go_wp2_with fail
    go_loopw [4, 5, 6] (fun v c i wr => ∃ (O : List UInt8) (k : Nat) (b : Bool), i = .int .i64 k ∧ c = .bool b ∧ k ≤ s.size ∧ O.length ≤ k ∧ OwnY wr w.heap.size v O ∧ Later w wr ∧ Hid (O ++ stp b (l.drop k) = D)) (fun _ _ i _ => s.size - (intOf i).toNat)
    case atStart => exact ⟨[], 0, false, rfl, rfl, by omega, by simp, O0.out, (Later.refl _).alloc _, G0⟩
    case round =>
      obtain ⟨O, k, b, rfl, rfl, hk, hO, ho, hb, HI⟩ := hrel
      have O3 := Lib.hid ho; have B3 := Lib.hid hb
      have hsz : w.heap.size ≤ wr.heap.size := hb.size
      clear O0 G0
      by_cases hlt : k < s.size
      · have hx : s[k].toNat < 256 := s[k].toNat_lt
        have hd := AT.out k hlt
        clear ho hb
        by_cases c10 : s[k].toNat = 10
        · have e1 : ((s[k].toNat : Int) == 35) = false := by simp; omega
          have e2 : ((s[k].toNat : Int) == 10) = true := by simp; omega
          have HN : Hid ((O ++ [s[k]]) ++ stp false (l.drop (k + 1)) = D) := Lib.hid (by have h := HI.out; rw [hd, stp_10 b _ _ c10] at h; rw [← h]; simp)
          clear c10 hd
          go_wp2_with (at_builtin; go_must (refine app1Y rfl _ _ rfl w.heap.size _ _ _ O s[k] _ rfl O3.out rfl rfl (by omega) hsz ?_; intro v' w6 ho hgr))
          have B6 : Hid (Later w w6) := Lib.hid (Below.grown B3.out hgr hsz (fun j hj => (O3.out.lt j hj).1))
          have O6 := Lib.hid ho
          clear ho hgr
          go_wp2_with fail
          go_roundw
          case rel => exact ⟨_, k + 1, false, by go_num, rfl, by omega, by simp; omega, O6.out, B6.out, HN⟩
          case measure => simp [intOf]; omega
        · have e2 : ((s[k].toNat : Int) == 10) = false := by simp; omega
          by_cases c35 : s[k].toNat = 35
          · have e1 : ((s[k].toNat : Int) == 35) = true := by simp; omega
            have HN : Hid (O ++ stp true (l.drop (k + 1)) = D) := Lib.hid (by have h := HI.out; rw [hd, stp_35 b _ _ c35] at h; exact h)
            clear c10 c35 hd
            go_wp2_with fail
            go_roundw
            case rel => exact ⟨O, k + 1, true, by go_num, rfl, by omega, by omega, O3.out, B3.out, HN⟩
            case measure => simp [intOf]; omega
          · have e1 : ((s[k].toNat : Int) == 35) = false := by simp; omega
            cases b
            · have HN : Hid ((O ++ [s[k]]) ++ stp false (l.drop (k + 1)) = D) := Lib.hid (by have h := HI.out; rw [hd, stp_inn _ _ c10 c35] at h; rw [← h]; simp)
              clear c10 c35 hd
              go_wp2_with (at_builtin; go_must (refine app1Y rfl _ _ rfl w.heap.size _ _ _ O s[k] _ rfl O3.out rfl rfl (by omega) hsz ?_; intro v' w6 ho hgr))
              have B6 : Hid (Later w w6) := Lib.hid (Below.grown B3.out hgr hsz (fun j hj => (O3.out.lt j hj).1))
              have O6 := Lib.hid ho
              clear ho hgr
              go_wp2_with fail
              go_roundw
              case rel => exact ⟨_, k + 1, false, by go_num, rfl, by omega, by simp; omega, O6.out, B6.out, HN⟩
              case measure => simp [intOf]; omega
            · have HN : Hid (O ++ stp true (l.drop (k + 1)) = D) := Lib.hid (by have h := HI.out; rw [hd, stp_t _ _ c10] at h; exact h)
              clear c10 c35 hd
              go_wp2_with fail
              go_roundw
              case rel => exact ⟨O, k + 1, true, by go_num, rfl, by omega, by omega, O3.out, B3.out, HN⟩
              case measure => simp [intOf]; omega
      · obtain rfl : k = s.size := by omega
        have HE : Hid (O = D) := Lib.hid (by
          have h := HI.out
          rw [List.drop_of_length_le (by omega)] at h
          simpa [stp] using h)
        obtain ⟨a, cap, rfl⟩ := ho.shape
        have hcv := ho.conv
        clear ho hb
        go_wp2_with fail
        go_ret2
        rw [HE.out]
        exact ⟨rfl, B3.out⟩
theorem walk_FnExactStripComments (s : ByteArray) (hml : s.size ≤ maxLen) (w : World) (hx : MaxL w) :
    Calls Tryd.prog 10 #[.string s] w fun e w' => e = .returned (.bool true) ∧ Below w.heap.size w w' := by
  have HM := Lib.hid hx
  clear hx hml
  by_cases hs : 1048576 < s.size
  · have e1 : decide ((1048576 : Int) < s.size) = true := by simp; omega
    go_enter Tryd.func10, Tryd.ntmps10
    go_wp2_with fail
    go_ret
    exact ⟨rfl, by first | exact Later.refl _ | exact (Later.refl _).drew⟩
  · have hs2 : s.size ≤ 1048576 := by omega
    have e1 : decide ((1048576 : Int) < s.size) = false := by simp; omega
    clear hs
    have SF := Lib.hid (s_StripComments s)
    have IF := Lib.hid (i_StripComments s)
    obtain ⟨x, hx⟩ : ∃ x, x = tx (scV s.data.toList) := ⟨_, rfl⟩
    obtain ⟨y, hy⟩ : ∃ x, x = scE s.data.toList := ⟨_, rfl⟩
    rw [← hx, ← hy] at SF IF
    clear hx hy
    go_enter Tryd.func10, Tryd.ntmps10
    go_wp2_with (first | (go_at_call 28; refine (SF.out _ hs2).mono ?_; rintro e w1 ⟨rfl, hb⟩; have B1 := Lib.hid hb; clear hb) | (go_at_call 27; refine (IF.out _ hs2 (HM.out.later B1.out)).mono ?_; rintro e w2 ⟨rfl, hb⟩; have B2 := Lib.hid (Later.trans B1.out hb); clear hb))
    go_ret
    exact ⟨rfl, B2.out⟩
end Go.Proofs.YtpeebgkgccacbaaDoor
