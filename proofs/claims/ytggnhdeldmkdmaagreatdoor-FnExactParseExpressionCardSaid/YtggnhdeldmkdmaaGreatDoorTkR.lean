/- Tokens, of the model: the tokens of a text; ReadTokens, FirstBadByte. -/
import Derived.Test.YtggnhdeldmkdmaaGreatDoorTkT
import Derived.Test.YtggnhdeldmkdmaaGreatDoorTkB
namespace Go.Proofs.YtggnhdeldmkdmaaGreatDoor
open Go.RowKit Go.Shelf
set_option maxHeartbeats 4000000
set_option maxRecDepth 100000
set_option linter.unusedVariables false
set_option linter.unusedSimpArgs false
theorem s_Read12 (s : ByteArray) (w : World) (hs : s.size ≤ 1048576) : Calls Tryz.prog 102 #[.string s] w (TkRd s.data.toList w) := by
  obtain ⟨l, hl⟩ : ∃ l, l = s.data.toList := ⟨_, rfl⟩
  have hlen : l.length = s.size := by rw [hl]; rfl
  have NX := Lib.hid (s_Next12 s)
  rw [← hl] at NX ⊢
  clear hl
  obtain ⟨T, hT⟩ : ∃ T, T = tkI (rd l 0).1 := ⟨_, rfl⟩
  obtain ⟨bad, hbad⟩ : ∃ b, b = (rd l 0).2 := ⟨_, rfl⟩
  have G0 : Hid (tkI (rd (l.drop 0) 0).1 = T ∧ (rd (l.drop 0) 0).2 = bad) := Lib.hid ⟨hT.symm, hbad.symm⟩
  unfold TkRd
  rw [← hT, ← hbad]
  clear hT hbad
  have O0 := Lib.hid (ownK_new w w.heap.size 125 (Nat.le_refl _))
  go_enter Tryz.func102, Tryz.ntmps102
  go_wp2_with fail
  go_loopw [4, 5] (fun v i wr => ∃ (L : List Tkn) (k : Nat), i = .int .i64 k ∧ k ≤ s.size ∧ L.length ≤ k ∧ OwnK wr w.heap.size 125 v L ∧ Later w wr ∧ Hid (L ++ tkI (rd (l.drop k) k).1 = T ∧ (rd (l.drop k) k).2 = bad)) (fun _ i _ => s.size - (intOf i).toNat)
  case atStart => exact ⟨[], 0, rfl, Nat.zero_le _, Nat.zero_le _, O0.out, (Later.refl _).alloc _, G0⟩
  case round =>
    obtain ⟨L, k, rfl, hk, hLk, ho, hb, HI⟩ := hrel
    have O3 := Lib.hid ho; have B3 := Lib.hid hb
    have hsz : w.heap.size ≤ wr.heap.size := hb.size
    clear ho hb O0
    by_cases hlt : k < s.size
    · go_wp2_with fail
      refine (NX.out k _ hs hlt).mono ?_
      rintro e w4 ⟨K, t, n, ok, rfl, hnx, hb⟩
      have B4 := Lib.hid (Later.trans B3.out hb)
      have O4 := Lib.hid (O3.out.later hb)
      have z4 := B4.out.size
      obtain ⟨n1, n2, n3, n4, n5, n6⟩ := hnx
      clear hb
      rcases n3 with ⟨rfl, rfl, hr⟩ | ⟨rfl, hr⟩ | ⟨q, hq0, rfl, rfl, hr⟩
      · have HN : Hid (L ++ tkI (rd (l.drop n) n).1 = T ∧ (rd (l.drop n) n).2 = bad) := Lib.hid (by rw [← hr]; exact HI.out)
        clear hr
        go_wp2_with fail
        go_roundw
        case rel => exact ⟨L, n, rfl, by omega, by omega, O4.out.later (by repeat (first | (with_reducible exact Later.refl _) | (with_reducible exact Hid.out (by assumption)) | (with_reducible refine Later.alloc ?_ _) | (with_reducible refine Later.setCell ?_ (by simp; omega) _) | (with_reducible refine Later.setCell ?_ (by simp) _) | (with_reducible refine Later.drewN ?_ _) | (with_reducible refine Later.drew ?_) | (with_reducible refine Later.trans ?_ (Hid.out (by assumption))))), (by repeat (first | (with_reducible exact Later.refl _) | (with_reducible exact Hid.out (by assumption)) | (with_reducible refine Later.alloc ?_ _) | (with_reducible refine Later.setCell ?_ (by simp; omega) _) | (with_reducible refine Later.setCell ?_ (by simp) _) | (with_reducible refine Later.drewN ?_ _) | (with_reducible refine Later.drew ?_) | (with_reducible refine Later.trans ?_ (Hid.out (by assumption))))), HN⟩
        case measure => simp [intOf]; omega
      · have HE : Hid (L = T ∧ (k : Int) = bad) := Lib.hid (by
          have h := HI.out
          rw [hr] at h
          exact ⟨by simpa [tkI] using h.1, h.2⟩)
        clear hr
        go_wp2_with fail
        go_ret2
        obtain ⟨rfl, rfl⟩ := HE.out
        exact ⟨_, rfl, O4.out.later (by repeat (first | (with_reducible exact Later.refl _) | (with_reducible exact Hid.out (by assumption)) | (with_reducible refine Later.alloc ?_ _) | (with_reducible refine Later.setCell ?_ (by simp; omega) _) | (with_reducible refine Later.setCell ?_ (by simp) _) | (with_reducible refine Later.drewN ?_ _) | (with_reducible refine Later.drew ?_) | (with_reducible refine Later.trans ?_ (Hid.out (by assumption))))), (by repeat (first | (with_reducible exact Later.refl _) | (with_reducible exact Hid.out (by assumption)) | (with_reducible refine Later.alloc ?_ _) | (with_reducible refine Later.setCell ?_ (by simp; omega) _) | (with_reducible refine Later.setCell ?_ (by simp) _) | (with_reducible refine Later.drewN ?_ _) | (with_reducible refine Later.drew ?_) | (with_reducible refine Later.trans ?_ (Hid.out (by assumption)))))⟩
      · have HN : Hid (L ++ [((q : Int), t)] ++ tkI (rd (l.drop n) n).1 = T ∧ (rd (l.drop n) n).2 = bad) := Lib.hid (by
          have h := HI.out
          rw [hr] at h
          refine ⟨?_, h.2⟩
          rw [← h.1, tkI_cons]; simp)
        have HTk : Hid (TkR ((q : Int), t)) := Lib.hid ⟨⟨by omega, by omega⟩, by show t.length ≤ 1048576; omega⟩
        have hq1 : decide ((0 : Int) < (q : Int)) = true := by simp; omega
        have hq2 : (0 : Int) < (q : Int) := by omega
        have hLL : L.length ≤ 1000000000 := by omega
        clear hr hq0
        go_wp2_with (at_builtin; go_must (refine appK rfl _ _ 125 70 _ 24 info_tkn Tryz.underlying70 rfl (by omega) rfl w.heap.size _ _ _ L (q : Int) t (O4.out.later (by repeat (first | (with_reducible exact Later.refl _) | (with_reducible exact Hid.out (by assumption)) | (with_reducible refine Later.alloc ?_ _) | (with_reducible refine Later.setCell ?_ (by simp; omega) _) | (with_reducible refine Later.setCell ?_ (by simp) _) | (with_reducible refine Later.drewN ?_ _) | (with_reducible refine Later.drew ?_) | (with_reducible refine Later.trans ?_ (Hid.out (by assumption)))))) rfl (by first | rfl | (rw [World.size_alloc]; rfl)) HTk.out hLL (by first | exact z4 | (simp; omega)) ?_; intro v' w7 ho hgr))
        have B7 : Hid (Later w w7) := Lib.hid (Below.grown (show Later w _ from (by repeat (first | (with_reducible exact Later.refl _) | (with_reducible exact Hid.out (by assumption)) | (with_reducible refine Later.alloc ?_ _) | (with_reducible refine Later.setCell ?_ (by simp; omega) _) | (with_reducible refine Later.setCell ?_ (by simp) _) | (with_reducible refine Later.drewN ?_ _) | (with_reducible refine Later.drew ?_) | (with_reducible refine Later.trans ?_ (Hid.out (by assumption)))))) hgr (by first | exact z4 | (simp; omega)) (fun j hj => (O4.out.lt j hj).1))
        have O7 := Lib.hid ho
        clear ho hgr
        go_wp2_with fail
        go_roundw
        case rel => exact ⟨_, n, rfl, by omega, by simp; omega, O7.out, B7.out, HN⟩
        case measure => simp [intOf]; omega
    · obtain rfl : k = s.size := by omega
      have HE : Hid (L = T ∧ bad = -1) := Lib.hid (by
        have h := HI.out
        rw [List.drop_of_length_le (by omega), rd_nil] at h
        exact ⟨by simpa [tkI] using h.1, h.2.symm⟩)
      go_wp2_with fail
      go_ret2
      obtain ⟨rfl, rfl⟩ := HE.out
      exact ⟨_, rfl, O3.out, B3.out⟩
theorem s_ReadTokens (s : ByteArray) (w : World) (hs : s.size ≤ 1048576) : Calls Tryz.prog 53 #[.string s] w (TkRt s.data.toList w) := by
  obtain ⟨l, hl⟩ : ∃ l, l = s.data.toList := ⟨_, rfl⟩
  have hlen : l.length = s.size := by rw [hl]; rfl
  have TB := Lib.hid (s_Read12 s w hs)
  rw [← hl] at TB ⊢
  have HR : Hid (rtE l = if 6000 < l.length then 3 else if 0 ≤ (rd l 0).2 then 6 else if 800 < (tkI (rd l 0).1).length then 3 else 0) := Lib.hid (by unfold rtE tkI; rw [List.length_map])
  have HRL : Hid (rtL l = if rtE l = 0 then tkI (rd l 0).1 else []) := Lib.hid rfl
  have hm := rd_m1 l 0
  unfold TkRt
  unfold TkRd at TB
  obtain ⟨T, hT⟩ : ∃ T, T = tkI (rd l 0).1 := ⟨_, rfl⟩
  obtain ⟨bad, hbad⟩ : ∃ b, b = (rd l 0).2 := ⟨_, rfl⟩
  have hbb : bad ≤ 9223372036854775807 ∨ True := .inr trivial
  rw [← hT] at TB HR HRL
  rw [← hbad] at TB HR hm
  clear hl hT hbad hbb
  by_cases h1 : 6000 < s.size
  · have e1 : rtE l = 3 := by rw [HR.out, hlen, if_pos h1]
    have e2 : rtL l = [] := by rw [HRL.out, e1]; rfl
    rw [e1, e2]
    go_enter Tryz.func53, Tryz.ntmps53
    go_wp2_with fail
    go_ret2
    exact ⟨_, rfl, ownK_none _ _ _, Later.refl _⟩
  · have h1' : s.size ≤ 6000 := by omega
    rcases hm with hm | hm
    · subst hm
      by_cases h2 : 800 < T.length
      · have e1 : rtE l = 3 := by rw [HR.out, hlen, if_neg h1, if_neg (by omega), if_pos h2]
        have e2 : rtL l = [] := by rw [HRL.out, e1]; rfl
        rw [e1, e2]
        clear h1
        go_enter Tryz.func53, Tryz.ntmps53
        go_wp2_with (go_at_call 102; refine TB.out.mono ?_; rintro e w1 ⟨v, rfl, ho, hb⟩; obtain ⟨a, cap, rfl, hc, _, _, _, hmx⟩ := ho.tks; have B1 := Lib.hid hb; clear hb)
        go_ret2
        exact ⟨_, rfl, ownK_none _ _ _, B1.out⟩
      · have h2' : T.length ≤ 800 := by omega
        have e1 : rtE l = 0 := by rw [HR.out, hlen, if_neg h1, if_neg (by omega), if_neg h2]
        have e2 : rtL l = T := by rw [HRL.out, e1]; rfl
        rw [e1, e2]
        clear h1 h2
        go_enter Tryz.func53, Tryz.ntmps53
        go_wp2_with (go_at_call 102; refine TB.out.mono ?_; rintro e w1 ⟨v, rfl, ho, hb⟩; obtain ⟨a, cap, rfl, hc, _, _, _, hmx⟩ := ho.tks; have B1 := Lib.hid hb; have O1 := Lib.hid ho; clear hb ho)
        go_ret2
        exact ⟨_, rfl, O1.out, B1.out⟩
    · have e1 : rtE l = 6 := by rw [HR.out, hlen, if_neg h1, if_pos hm]
      have e2 : rtL l = [] := by rw [HRL.out, e1]; rfl
      rw [e1, e2]
      clear h1
      go_enter Tryz.func53, Tryz.ntmps53
      go_wp2_with (go_at_call 102; refine TB.out.mono ?_; rintro e w1 ⟨v, rfl, ho, hb⟩; obtain ⟨a, cap, rfl, hc, _, _, _, hmx⟩ := ho.tks; have B1 := Lib.hid hb; clear hb)
      go_ret2
      exact ⟨_, rfl, ownK_none _ _ _, B1.out⟩
end Go.Proofs.YtggnhdeldmkdmaaGreatDoor
