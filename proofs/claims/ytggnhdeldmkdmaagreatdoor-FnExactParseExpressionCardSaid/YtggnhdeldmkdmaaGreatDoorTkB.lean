/- Tokens, of the program: the tokens of a text up to its first wrong part; ReadTokens, FirstBadByte. -/
import Derived.Test.YtggnhdeldmkdmaaGreatDoorTkL
import Derived.Test.YtggnhdeldmkdmaaGreatDoorTks
import Derived.Shelf.Strconv.Clone
namespace Go.Proofs.YtggnhdeldmkdmaaGreatDoor
open Go.RowKit Go.Shelf
set_option maxHeartbeats 4000000
set_option maxRecDepth 100000
set_option linter.unusedVariables false
set_option linter.unusedSimpArgs false
theorem info_tkn : (Tryz.prog.info? 125).map (fun i => (i.zero, i.size, i.bytes)) = some (some (.agg #[.int .i64 0, .string ⟨#[]⟩]), 2, 24) := by kernel_rfl
/-- the tokens that were read, with their kinds as 64-bit numbers -/
def tkI (L : List (Nat × List UInt8)) : List Tkn := L.map fun x => ((x.1 : Int), x.2)
theorem tkI_cons (x : Nat × List UInt8) (r : List (Nat × List UInt8)) : tkI (x :: r) = ((x.1 : Int), x.2) :: tkI r := rfl
theorem i_Clone (t : List UInt8) (w : World) (ht : t.length ≤ 1048576) : Calls Tryz.prog 152 #[.string (tx t)] w fun e w' => e = .returned (.string (tx t)) ∧ Later w w' := by
  have hz : (tx t).size ≤ 281474976710656 := by rw [tx_size]; omega
  have C := Lib.hid (Any.stringslite_Clone Tryz.laysM316 (tx t) w hz)
  clear hz
  go_enter Tryz.func152, Tryz.ntmps152
  go_wp2_with (go_at_call 162; refine C.out.mono ?_; rintro e w1 ⟨rfl, hb⟩; have B1 := Lib.hid hb; clear hb)
  go_ret
  exact ⟨rfl, B1.out⟩
theorem i_firstPartT (u : List UInt8) (w : World) (hs : u.length ≤ 1048576) (h0 : 1 ≤ u.length) : Calls Tryz.prog 151 #[.string (tx u)] w fun e w' => e = .returned (.string (tx (prt u))) ∧ Later w w' := i_firstPart (tx u) w hs h0
theorem i_tokenKindT (u : List UInt8) (w : World) (hs : u.length ≤ 1048576) (hW : Wst w) : Calls Tryz.prog 85 #[.string (tx u)] w fun e w' => e = .returned (.int .i64 (kdB u : Nat)) ∧ Later w w' := i_tokenKind (tx u) w hs hW
theorem i_gapLengthT (u : List UInt8) (w : World) (hs : u.length ≤ 1048576) : Calls Tryz.prog 150 #[.string (tx u)] w fun e w' => e = .returned (.int .i64 (gpl false u : Nat)) ∧ Later w w' := i_gapLength (tx u) w (by rw [tx_size]; omega)
theorem kdB_le (u : List UInt8) : kdB u ≤ 3 := by unfold kdB; repeat' split
                                                  all_goals omega
/-- 'a reading of the text l: its tokens in memory of the call's own, and where its first wrong part begins, or -1' -/
def TkRd (l : List UInt8) (w : World) (e : Ending) (w' : World) : Prop :=
  ∃ v, e = .returned (.tuple #[v, .int .i64 (rd l 0).2]) ∧ OwnK w' w.heap.size 125 v (tkI (rd l 0).1) ∧ Later w w'
theorem i_tokensBefore (s : ByteArray) (w : World) (hs : s.size ≤ 1048576) (hW : Wst w) : Calls Tryz.prog 132 #[.string s] w (TkRd s.data.toList w) := by
  obtain ⟨l, hl⟩ : ∃ l, l = s.data.toList := ⟨_, rfl⟩
  have hlen : l.length = s.size := by rw [hl]; rfl
  have GL := Lib.hid (i_gapLength s)
  have EX : ∀ k, s.extract k s.size = tx (l.drop k) := fun k => by
    rw [ext_tx, ← hl, List.take_of_length_le (by rw [List.length_drop, hlen]; omega)]
  have HEX := Lib.hid EX
  clear EX
  have HLEN := Lib.hid hlen
  have HW := Lib.hid hW
  have hg0 := gpl_le false l
  rw [← hl] at GL ⊢
  clear hl hW
  obtain ⟨T, hT⟩ : ∃ T, T = tkI (rd l 0).1 := ⟨_, rfl⟩
  obtain ⟨bad, hbad⟩ : ∃ b, b = (rd l 0).2 := ⟨_, rfl⟩
  have HT := Lib.hid hT; have HB := Lib.hid hbad
  obtain ⟨g0, hg⟩ : ∃ g, g = gpl false l := ⟨_, rfl⟩
  have G0 : Hid (tkI (rd (l.drop g0) g0).1 = T ∧ (rd (l.drop g0) g0).2 = bad ∧ ∀ h : g0 < l.length, (l[g0]).toNat ≠ 10 ∧ (l[g0]).toNat ≠ 35 ∧ (l[g0]).toNat ≠ 32) := Lib.hid (by
    subst hg
    have h := rd_gap' l 0
    rw [Nat.zero_add] at h
    rw [← h]
    exact ⟨hT.symm, hbad.symm, fun h => gpl_stop false l h⟩)
  rw [← hg] at GL hg0
  unfold TkRd
  rw [← hT, ← hbad]
  clear hT hbad hg
  rw [hlen] at hg0
  go_enter Tryz.func132, Tryz.ntmps132
  go_wp2_with (go_at_call 150; refine (GL.out _ (by omega)).mono ?_; rintro e w1 ⟨rfl, hb⟩; have B1 := Lib.hid hb; clear hb)
  have hw1 := B1.out.size
  go_loopw [4, 5] (fun v i wr => ∃ (L : List Tkn) (k : Nat), i = .int .i64 k ∧ k ≤ s.size ∧ L.length ≤ k ∧ OwnK wr w.heap.size 125 v L ∧ Later w wr ∧ Hid (L ++ tkI (rd (l.drop k) k).1 = T ∧ (rd (l.drop k) k).2 = bad ∧ ∀ h : k < l.length, (l[k]).toNat ≠ 10 ∧ (l[k]).toNat ≠ 35 ∧ (l[k]).toNat ≠ 32)) (fun _ i _ => s.size - (intOf i).toNat)
  case atStart => exact ⟨[], g0, rfl, hg0, Nat.zero_le _, ownK_none _ _ _, B1.out, G0⟩
  case round =>
    obtain ⟨L, k, rfl, hk, hLk, ho, hb, HI⟩ := hrel
    have O3 := Lib.hid ho; have B3 := Lib.hid hb
    have hsz : w.heap.size ≤ wr.heap.size := hb.size
    clear ho hb
    by_cases hlt : k < s.size
    · have hkl : k < l.length := by rw [hlen]; exact hlt
      have hd : l.drop k = l[k] :: l.drop (k + 1) := List.drop_eq_getElem_cons hkl
      obtain ⟨n1, n2, n3⟩ := HI.out.2.2 hkl
      obtain ⟨u, hu⟩ : ∃ u, u = l.drop k := ⟨_, rfl⟩
      have hul : u.length = s.size - k := by rw [hu, List.length_drop, hlen]
      have hp := prt_len u (by intro h; rw [h] at hul; simp at hul; omega)
      have hkd := kdB_le (prt u)
      have HU := Lib.hid hu
      have EU := HEX.out k
      rw [← hu] at EU
      -- how the reading goes on
      have R0 : Hid (kdB (prt u) = 0 → rd u k = ([], (k : Int))) := Lib.hid (fun h => by
        rw [hu] at h ⊢; rw [hd] at h ⊢; exact rd_bad _ _ k n3 n1 n2 h)
      have R1 : Hid (kdB (prt u) ≠ 0 → rd u k = ((kdB (prt u), prt u) :: (rd (u.drop (prt u).length) (k + (prt u).length)).1, (rd (u.drop (prt u).length) (k + (prt u).length)).2)) := Lib.hid (fun h => by
        rw [hu] at h ⊢; rw [hd] at h ⊢; exact rd_tok _ _ k n3 n1 n2 h)
      obtain ⟨p, hpp⟩ : ∃ p, p = prt u := ⟨_, rfl⟩
      obtain ⟨q, hq⟩ : ∃ q, q = kdB p := ⟨_, rfl⟩
      have FP := Lib.hid (i_firstPartT u)
      rw [← hpp] at hp hkd R0 R1 FP
      have TK := Lib.hid (i_tokenKindT p)
      rw [← hq] at hkd R0 R1 TK
      have hpl := hp.2.2
      obtain ⟨hp1, hp2, hp3⟩ := hp
      rw [← hp2] at hp3 hpl
      rw [hul] at hp3
      have hpz : (tx p).size = p.length := rfl
      clear hd n1 n2 n3 hu hpp hq hp2
      by_cases hq0 : q = 0
      · subst hq0
        have HE : Hid (L = T ∧ (k : Int) = bad) := Lib.hid (by
          have h := HI.out
          rw [← HU.out, R0.out rfl] at h
          exact ⟨by simpa [tkI] using h.1, h.2.1⟩)
        clear hkl
        go_wp2_with (first | (go_at_call 151; refine (FP.out _ (by omega) (by omega)).mono ?_; rintro e w4 ⟨rfl, hb⟩; have B4 := Lib.hid (Later.trans B3.out hb); have O4 := Lib.hid (O3.out.later hb); clear hb) | (go_at_call 85; refine (TK.out _ (by omega) (HW.out.later B4.out)).mono ?_; rintro e w5 ⟨rfl, hb⟩; have B5 := Lib.hid (Later.trans B4.out hb); have O5 := Lib.hid (O4.out.later hb); clear hb))
        go_ret2
        obtain ⟨rfl, rfl⟩ := HE.out
        exact ⟨_, rfl, O5.out, B5.out⟩
      · have hq1 : ((q : Int) == 0) = false := by simp; omega
        have R2 := R1.out hq0
        obtain ⟨k2, hk2⟩ : ∃ k2, k2 = k + p.length := ⟨_, rfl⟩
        have hk2s : k2 ≤ s.size := by omega
        have hud : u.drop p.length = l.drop k2 := by rw [HU.out, List.drop_drop, hk2]
        rw [hud, ← hk2] at R2
        have EX2 := HEX.out k2
        obtain ⟨u2, hu2⟩ : ∃ u, u = l.drop k2 := ⟨_, rfl⟩
        have hul2 : u2.length = s.size - k2 := by rw [hu2, List.length_drop, hlen]
        rw [← hu2] at EX2 R2
        have GP := Lib.hid (i_gapLengthT u2)
        have hgl := gpl_le false u2
        obtain ⟨g, hg⟩ : ∃ g, g = gpl false u2 := ⟨_, rfl⟩
        have HN : Hid (L ++ [((q : Int), p)] ++ tkI (rd (l.drop (k2 + g)) (k2 + g)).1 = T ∧ (rd (l.drop (k2 + g)) (k2 + g)).2 = bad ∧ ∀ h : k2 + g < l.length, (l[k2 + g]).toNat ≠ 10 ∧ (l[k2 + g]).toNat ≠ 35 ∧ (l[k2 + g]).toNat ≠ 32) := Lib.hid (by
          have h := HI.out
          rw [← HU.out, R2] at h
          have h2 := rd_gap' u2 k2
          have h3 : u2.drop (gpl false u2) = l.drop (k2 + g) := by rw [hu2, hg, hu2, List.drop_drop]
          rw [h3, ← hg] at h2
          rw [← h2]
          refine ⟨?_, h.2.1, fun hx => ?_⟩
          · rw [← h.1, tkI_cons]; simp
          · have h4 := gpl_stop false u2 (by rw [← hg]; omega)
            have h5 : u2[gpl false u2]'(by rw [← hg]; omega) = l[k2 + g] := by
              simp only [hu2, List.getElem_drop, hg]
            rw [h5] at h4; exact h4)
        rw [← hg] at GP hgl
        have ek : IntKind.i64.wrap ((k : Int) + (p.length : Int)) = (k2 : Int) := by rw [show (k : Int) + (p.length : Int) = (k2 : Int) by omega]; exact IntWalk.i64_in _ (by omega)
        have hTk : TkR ((q : Int), p) := ⟨⟨by omega, by omega⟩, by show p.length ≤ 1048576; omega⟩
        have HTk := Lib.hid hTk
        have hkk : k + 1 ≤ k2 := by omega
        clear hkl hq0 hud hu2 hg hTk R2 hk2
        go_wp2_with (first | (go_at_call 151; refine (FP.out _ (by omega) (by omega)).mono ?_; rintro e w4 ⟨rfl, hb⟩; have B4 := Lib.hid (Later.trans B3.out hb); have O4 := Lib.hid (O3.out.later hb); clear hb) | (go_at_call 85; refine (TK.out _ (by omega) (HW.out.later B4.out)).mono ?_; rintro e w5 ⟨rfl, hb⟩; have B5 := Lib.hid (Later.trans B4.out hb); have O5 := Lib.hid (O4.out.later hb); clear hb) | (go_at_call 152; refine (i_Clone _ _ (by omega)).mono ?_; rintro e w6 ⟨rfl, hb⟩; have B6 := Lib.hid (Later.trans B5.out hb); have O6 := Lib.hid (O5.out.later hb); clear hb) | (at_builtin; go_must (refine appK rfl _ _ 125 70 _ 24 info_tkn Tryz.underlying70 rfl (by omega) rfl w.heap.size _ _ _ L (q : Int) p O6.out rfl rfl HTk.out (by omega) B6.out.size ?_; intro v' w7 ho hgr)))
        have B7 : Hid (Later w w7) := Lib.hid (Below.grown B6.out hgr (by first | exact B6.out.size | (rw [World.size_alloc]; have := B6.out.size; omega)) (fun j hj => (O6.out.lt j hj).1))
        have O7 := Lib.hid ho
        clear ho hgr
        go_wp2_with (go_at_call 150; refine (GP.out _ (by omega)).mono ?_; rintro e w8 ⟨rfl, hb⟩; have B8 := Lib.hid (Later.trans B7.out hb); have O8 := Lib.hid (O7.out.later hb); clear hb)
        go_roundw
        case rel => exact ⟨_, k2 + g, by go_num, by omega, by simp; omega, O8.out, B8.out, HN⟩
        case measure => simp [intOf]; omega
    · obtain rfl : k = s.size := by omega
      have HE : Hid (L = T ∧ bad = -1) := Lib.hid (by
        have h := HI.out
        rw [List.drop_of_length_le (by omega), rd_nil] at h
        exact ⟨by simpa [tkI] using h.1, h.2.1.symm⟩)
      go_wp2_with fail
      go_ret2
      obtain ⟨rfl, rfl⟩ := HE.out
      exact ⟨_, rfl, O3.out, B3.out⟩
/-- what ReadTokens hands back of the text l -/
def rtE (l : List UInt8) : Int := if 6000 < l.length then 3 else if 0 ≤ (rd l 0).2 then 6 else if 800 < (rd l 0).1.length then 3 else 0
def rtL (l : List UInt8) : List Tkn := if rtE l = 0 then tkI (rd l 0).1 else []
def TkRt (l : List UInt8) (w : World) (e : Ending) (w' : World) : Prop :=
  ∃ v, e = .returned (.tuple #[v, .int .i64 (rtE l)]) ∧ OwnK w' w.heap.size 125 v (rtL l) ∧ Later w w'
theorem i_ReadTokens (s : ByteArray) (w : World) (hs : s.size ≤ 1048576) (hW : Wst w) : Calls Tryz.prog 95 #[.string s] w (TkRt s.data.toList w) := by
  obtain ⟨l, hl⟩ : ∃ l, l = s.data.toList := ⟨_, rfl⟩
  have hlen : l.length = s.size := by rw [hl]; rfl
  have TB := Lib.hid (i_tokensBefore s w hs hW)
  rw [← hl] at TB ⊢
  have HR : Hid (rtE l = if 6000 < l.length then 3 else if 0 ≤ (rd l 0).2 then 6 else if 800 < (tkI (rd l 0).1).length then 3 else 0) := Lib.hid (by unfold rtE tkI; rw [List.length_map])
  have HRL : Hid (rtL l = if rtE l = 0 then tkI (rd l 0).1 else []) := Lib.hid rfl
  have hm := rd_m1 l 0
  unfold TkRt
  unfold TkRd at TB
  obtain ⟨T, hT⟩ : ∃ T, T = tkI (rd l 0).1 := ⟨_, rfl⟩
  obtain ⟨bad, hbad⟩ : ∃ b, b = (rd l 0).2 := ⟨_, rfl⟩
  have hbb : bad ≤ 9223372036854775807 ∨ True := .inr trivial
  rw [← hT] at TB HR HRL
  rw [← hbad] at TB HR hm
  clear hl hT hbad hbb
  by_cases h1 : 6000 < s.size
  · have e1 : rtE l = 3 := by rw [HR.out, hlen, if_pos h1]
    have e2 : rtL l = [] := by rw [HRL.out, e1]; rfl
    rw [e1, e2]
    go_enter Tryz.func95, Tryz.ntmps95
    go_wp2_with fail
    go_ret2
    exact ⟨_, rfl, ownK_none _ _ _, Later.refl _⟩
  · have h1' : s.size ≤ 6000 := by omega
    rcases hm with hm | hm
    · subst hm
      by_cases h2 : 800 < T.length
      · have e1 : rtE l = 3 := by rw [HR.out, hlen, if_neg h1, if_neg (by omega), if_pos h2]
        have e2 : rtL l = [] := by rw [HRL.out, e1]; rfl
        rw [e1, e2]
        clear h1
        go_enter Tryz.func95, Tryz.ntmps95
        go_wp2_with (go_at_call 132; refine TB.out.mono ?_; rintro e w1 ⟨v, rfl, ho, hb⟩; obtain ⟨a, cap, rfl, hc, _, _, _, hmx⟩ := ho.tks; have B1 := Lib.hid hb; clear hb)
        go_ret2
        exact ⟨_, rfl, ownK_none _ _ _, B1.out⟩
      · have h2' : T.length ≤ 800 := by omega
        have e1 : rtE l = 0 := by rw [HR.out, hlen, if_neg h1, if_neg (by omega), if_neg h2]
        have e2 : rtL l = T := by rw [HRL.out, e1]; rfl
        rw [e1, e2]
        clear h1 h2
        go_enter Tryz.func95, Tryz.ntmps95
        go_wp2_with (go_at_call 132; refine TB.out.mono ?_; rintro e w1 ⟨v, rfl, ho, hb⟩; obtain ⟨a, cap, rfl, hc, _, _, _, hmx⟩ := ho.tks; have B1 := Lib.hid hb; have O1 := Lib.hid ho; clear hb ho)
        go_ret2
        exact ⟨_, rfl, O1.out, B1.out⟩
    · have e1 : rtE l = 6 := by rw [HR.out, hlen, if_neg h1, if_pos hm]
      have e2 : rtL l = [] := by rw [HRL.out, e1]; rfl
      rw [e1, e2]
      clear h1
      go_enter Tryz.func95, Tryz.ntmps95
      go_wp2_with (go_at_call 132; refine TB.out.mono ?_; rintro e w1 ⟨v, rfl, ho, hb⟩; obtain ⟨a, cap, rfl, hc, _, _, _, hmx⟩ := ho.tks; have B1 := Lib.hid hb; clear hb)
      go_ret2
      exact ⟨_, rfl, ownK_none _ _ _, B1.out⟩
/-- what FirstBadByte hands back -/
def fbE (l : List UInt8) : Int := if 6000 < l.length then 3 else 0
def fbV (l : List UInt8) : Int := if 6000 < l.length then 0 else (rd l 0).2
end Go.Proofs.YtggnhdeldmkdmaaGreatDoor
