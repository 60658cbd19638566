/- The walk of the law on texts of tokens. -/
import Derived.Test.YtpeebgkgccacbaaDoorTkC
import Derived.Test.YtpeebgkgccacbaaDoorTkG
import Derived.Test.YtpeebgkgccacbaaDoorTku
import Derived.Test.YtpeebgkgccacbaaDoorRow
namespace Go.Proofs.YtpeebgkgccacbaaDoor
open Go.RowKit Go.Shelf
set_option maxHeartbeats 4000000
set_option maxRecDepth 100000
set_option linter.unusedVariables false
set_option linter.unusedSimpArgs false
theorem l_likeTokens_same (a b : Option Addr) (n cap m cap' : Nat) (L : List Tkn) (w : World) (hs : Tks w a n L) (ht : Tks w b m L) :
    Calls Tryd.prog 22 #[.slice a n cap, .slice b m cap'] w fun e w' => e = .returned (.bool true) ∧ Later w w' := by
  have hn := hs.1; have hm := ht.1
  obtain rfl : n = m := by omega
  have HS := Lib.hid hs; have HT := Lib.hid ht
  have hn' := hs.2.1
  clear hs ht hm hn
  have e0 : ((n : Int) != (n : Int)) = false := by simp
  go_enter Tryd.func22, Tryd.ntmps22
  go_wp2
  go_loopw [5] (fun i wr => ∃ k : Nat, k ≤ n ∧ i = .int .i64 k ∧ Later w wr) (fun i _ => n - (intOf i).toNat)
  case atStart => exact ⟨0, by omega, rfl, Later.refl _⟩
  case round =>
    obtain ⟨k, hk, rfl, hlw⟩ := hrel
    have HW := Lib.hid hlw
    clear hlw
    by_cases hlt : k < n
    · obtain ⟨b1, o1, rfl, c1, c2⟩ := (HS.out.later HW.out).2.2.1 k hlt
      obtain ⟨b2, o2, rfl, d1, d2⟩ := (HT.out.later HW.out).2.2.1 k hlt
      generalize tkx L k = x at c1 d1
      generalize tx (tsx L k) = y at c2 d2
      go_wp2_with fail
      go_quiet (fail)
      go_wp2_with fail
      go_roundw
      case rel => exact ⟨k + 1, by omega, by go_num, (by repeat (first | (with_reducible exact Later.refl _) | (with_reducible exact Hid.out (by assumption)) | (with_reducible refine Later.alloc ?_ _) | (with_reducible refine Later.setCell ?_ (by simp; omega) _) | (with_reducible refine Later.setCell ?_ (by simp) _) | (with_reducible refine Later.drewN ?_ _) | (with_reducible refine Later.drew ?_) | (with_reducible refine Later.trans ?_ (Hid.out (by assumption)))))⟩
      case measure => simp [intOf]; omega
    · obtain rfl : k = n := by omega
      go_wp2
      go_ret
      exact ⟨rfl, HW.out⟩
theorem rtE_lo (t : List UInt8) (h : t.length ≤ 6000) : rtE t = if 0 ≤ (rd t 0).2 then 6 else if 800 < (rd t 0).1.length then 3 else 0 := by
  unfold rtE; rw [if_neg (show ¬ 6000 < t.length by omega)]
theorem fbV_lo (t : List UInt8) (h : t.length ≤ 6000) : fbV t = (rd t 0).2 := by
  unfold fbV; rw [if_neg (show ¬ 6000 < t.length by omega)]
theorem rt_stp (t : List UInt8) (h : t.length ≤ 6000) : rtE (stp false t) = rtE t ∧ rtL (stp false t) = rtL t := by
  obtain ⟨h1, h2⟩ := rd_stp t.length t 0 0 (Nat.le_refl _)
  have h3 := stp_len false t
  have m1 := rd_m1 t 0
  have m2 := rd_m1 (stp false t) 0
  have hiff : (0 ≤ (rd (stp false t) 0).2) ↔ (0 ≤ (rd t 0).2) := by
    constructor
    · intro hx
      rcases m1 with m | m
      · have := h2.2 m; omega
      · exact m
    · intro hx
      rcases m2 with m | m
      · have := h2.1 m; omega
      · exact m
  have hE : rtE (stp false t) = rtE t := by
    rw [rtE_lo t h, rtE_lo (stp false t) (by omega), h1]
    by_cases hx : 0 ≤ (rd t 0).2
    · rw [if_pos hx, if_pos (hiff.2 hx)]
    · rw [if_neg hx, if_neg (fun hy => hx (hiff.1 hy))]
  exact ⟨hE, by unfold rtL; rw [hE, h1]⟩
theorem rt_six (t : List UInt8) (h : t.length ≤ 6000) : (rtE t = 6 ∧ 0 ≤ fbV t) ∨ (rtE t ≠ 6 ∧ fbV t < 0) := by
  have m := rd_m1 t 0
  rw [rtE_lo t h, fbV_lo t h]
  by_cases hx : 0 ≤ (rd t 0).2
  · rw [if_pos hx]; exact .inl ⟨rfl, hx⟩
  · rw [if_neg hx]
    right
    constructor
    · split <;> decide
    · omega
theorem fbE_scE (t : List UInt8) : fbE t = scE t := rfl
theorem walk_FnTexts (a0 : Option Addr) (len0 cap0 : Nat) (z0 : List Int) (w : World) (w0 : IsRow .u8 w a0 len0 cap0 z0) (hx : Wst w ∧ MaxL w) :
    Calls Tryd.prog 4 #[.slice a0 len0 cap0] w fun e w' => e = .returned (.bool true) ∧ Below w.heap.size w w' := by
  have HS := Lib.hid (isRow_bytes w0)
  have HW := Lib.hid hx.1; have HM := Lib.hid hx.2
  clear w0 hx
  by_cases hbig : 4096 < len0
  · go_enter Tryd.func4, Tryd.ntmps4
    go_wp2_with fail
    refine (l_big _ _ _ _).mono ?_
    rintro e w' ⟨rfl, rfl⟩
    go_wp2
    go_ret
    exact ⟨rfl, Below.refl _ _⟩
  go_enter Tryd.func4, Tryd.ntmps4
  go_wp2_with fail
  refine (l_big _ _ _ _).mono ?_
  rintro e w' ⟨rfl, rfl⟩
  go_wp2_with fail
  refine (s_DrawReadTokens _ _ _ _ HS.out).mono ?_
  rintro e w1 ⟨t, rfl, ht, hb⟩
  have B1 := Lib.hid hb
  have hts : (tx t).size ≤ 1048576 := by rw [tx_size]; omega
  have IR : Hid (∀ W, Wst W → Calls Tryd.prog 21 #[.string (tx t)] W (TkRt t W)) := Lib.hid (fun W h => i_ReadTokens (tx t) W hts h)
  have SR : Hid (∀ W, Calls Tryd.prog 24 #[.string (tx t)] W (TkRt t W)) := Lib.hid (fun W => s_ReadTokens (tx t) W hts)
  have IB : Hid (∀ W, Wst W → Calls Tryd.prog 25 #[.string (tx t)] W fun e w' => e = .returned (.tuple #[.int .i64 (fbV t), .int .i64 (fbE t)]) ∧ Later W w') := Lib.hid (fun W h => i_FirstBadByte (tx t) W hts h)
  have SB : Hid (∀ W, Calls Tryd.prog 26 #[.string (tx t)] W fun e w' => e = .returned (.tuple #[.int .i64 (fbV t), .int .i64 (fbE t)]) ∧ Later W w') := Lib.hid (fun W => s_FirstBadByte (tx t) W hts)
  have IC : Hid (∀ W, MaxL W → Calls Tryd.prog 27 #[.string (tx t)] W fun e w' => e = .returned (.tuple #[.string (tx (scV t)), .int .i64 (scE t)]) ∧ Later W w') := Lib.hid (fun W h => i_StripComments (tx t) W hts h)
  have SC : Hid (∀ W, Calls Tryd.prog 28 #[.string (tx t)] W fun e w' => e = .returned (.tuple #[.string (tx (scV t)), .int .i64 (scE t)]) ∧ Later W w') := Lib.hid (fun W => s_StripComments (tx t) W hts)
  unfold TkRt at IR SR
  have hL8 := rtL_len t
  have HF : Hid (6000 < t.length → rtE t = 3 ∧ scE t = 3) := Lib.hid (fun h => by unfold rtE scE; rw [if_pos h, if_pos h]; exact ⟨rfl, rfl⟩)
  have HO : Hid (t.length ≤ 6000 → scE t = 0 ∧ (∀ W, Wst W → Calls Tryd.prog 21 #[.string (tx (scV t))] W fun e w' => ∃ v, e = .returned (.tuple #[v, .int .i64 (rtE t)]) ∧ OwnK w' W.heap.size 33 v (rtL t) ∧ Later W w') ∧ ((rtE t = 6 ∧ 0 ≤ fbV t) ∨ (rtE t ≠ 6 ∧ fbV t < 0))) := Lib.hid (fun h => by
    have e1 : scE t = 0 := by unfold scE; rw [if_neg (by omega)]
    have e2 : scV t = stp false t := by unfold scV; rw [if_neg (by omega)]
    obtain ⟨e3, e4⟩ := rt_stp t h
    refine ⟨e1, fun W hW => ?_, rt_six t h⟩
    have h3 := stp_len false t
    have := i_ReadTokens (tx (stp false t)) W (by rw [tx_size]; omega) hW
    unfold TkRt at this
    have e5 : (tx (stp false t)).data.toList = stp false t := rfl
    rw [e5, e3, e4] at this
    rw [e2]; exact this)
  obtain ⟨L, hL⟩ : ∃ x, x = rtL t := ⟨_, rfl⟩
  obtain ⟨E, hE⟩ : ∃ x, x = rtE t := ⟨_, rfl⟩
  obtain ⟨V, hV⟩ : ∃ x, x = fbV t := ⟨_, rfl⟩
  obtain ⟨F, hF⟩ : ∃ x, x = scE t := ⟨_, rfl⟩
  obtain ⟨P, hP⟩ : ∃ x, x = tx (scV t) := ⟨_, rfl⟩
  rw [fbE_scE] at IB SB
  rw [← hL] at IR SR HO hL8
  rw [← hE] at IR SR HO HF
  rw [← hV] at IB SB HO
  rw [← hF] at IB SB IC SC HO HF
  rw [← hP] at IC SC HO
  obtain ⟨s, hs⟩ : ∃ s, s = tx t := ⟨_, rfl⟩
  rw [← hs] at IR SR IB SB IC SC hts ⊢
  obtain ⟨n, hn⟩ : ∃ n, n = L.length := ⟨_, rfl⟩
  have HN := Lib.hid hn
  have hn8 : n ≤ 800 := by omega
  clear hb hL hE hV hF hP hs hn hL8
  go_wp2_with fail
  refine (IR.out _ (HW.out.later B1.out)).mono ?_
  rintro e w2 ⟨v1, rfl, o1, hb⟩
  have B2 := Lib.hid (Later.trans B1.out hb)
  obtain ⟨a1, cap1, rfl, _, t1, _, _, _⟩ := o1.tks
  have T1 := Lib.hid t1
  rw [← HN.out] at T1 ⊢
  clear hb o1 t1
  go_wp2_with fail
  refine (SR.out _).mono ?_
  rintro e w3 ⟨v2, rfl, o2, hb⟩
  have B3 := Lib.hid (Later.trans B2.out hb)
  have T13 := Lib.hid (T1.out.later hb)
  obtain ⟨a2, cap2, rfl, _, t2, _, _, _⟩ := o2.tks
  have T2 := Lib.hid t2
  rw [← HN.out] at T2 ⊢
  clear hb o2 t2 T1
  go_wp2_with fail
  refine (IB.out _ (HW.out.later B3.out)).mono ?_
  rintro e w4 ⟨rfl, hb⟩
  have C4 := Lib.hid (show Later w3 w4 from hb)
  clear hb
  go_wp2_with fail
  refine (SB.out _).mono ?_
  rintro e w5 ⟨rfl, hb⟩
  have C5 := Lib.hid (Later.trans C4.out hb)
  clear hb
  go_wp2_with fail
  refine (IC.out _ (HM.out.later (Later.trans B3.out C5.out))).mono ?_
  rintro e w6 ⟨rfl, hb⟩
  have C6 := Lib.hid (Later.trans C5.out hb)
  clear hb
  go_wp2_with fail
  refine (SC.out _).mono ?_
  rintro e w7 ⟨rfl, hb⟩
  have C7 := Lib.hid (Later.trans C6.out hb)
  clear hb
  go_wp2_with fail
  refine (s_DrawIsKeyword _ _ _ _ (HS.out.later (Later.trans B3.out C7.out))).mono ?_
  rintro e w8 ⟨u, rfl, hu, hb⟩
  have C8 := Lib.hid (Later.trans C7.out hb)
  have T18 := Lib.hid (T13.out.later C8.out)
  have T28 := Lib.hid (T2.out.later C8.out)
  have B8 := Lib.hid (Later.trans B3.out C8.out)
  have IK : Hid (∀ W, Calls Tryd.prog 30 #[.string (tx u)] W fun e w' => e = .returned (.bool (kwB u)) ∧ W = w') := Lib.hid (fun W => i_IsKeyword (tx u) W)
  have SK : Hid (∀ W, Calls Tryd.prog 31 #[.string (tx u)] W fun e w' => e = .returned (.bool (kwB u)) ∧ Later W w') := Lib.hid (fun W => s_IsKeyword (tx u) W)
  obtain ⟨z, hz⟩ : ∃ z, z = kwB u := ⟨_, rfl⟩
  rw [← hz] at IK SK
  clear hb hz C4 C5 C6 C7 C8 T13 T2 SR IB SB IC SC
  by_cases h6 : 6000 < t.length
  · obtain ⟨rfl, rfl⟩ := HF.out h6
    clear h6 HF HO
    go_wp2_with (first | (go_at_call 22; refine (l_likeTokens_same _ _ n cap1 n cap2 L _ T18.out T28.out).mono ?_; rintro e w9 ⟨rfl, hb⟩; have B9 := Lib.hid (Later.trans B8.out hb); clear hb) | (go_at_call 30; refine (IK.out _).mono ?_; rintro e w' ⟨rfl, rfl⟩) | (go_at_call 31; refine (SK.out _).mono ?_; rintro e w10 ⟨rfl, hb⟩; have B10 := Lib.hid (Later.trans B9.out hb); clear hb))
    go_ret
    exact ⟨rfl, B10.out⟩
  · obtain ⟨hF0, HR, h6s⟩ := HO.out (by omega)
    subst hF0
    have HR := Lib.hid HR
    clear h6 HF HO
    rcases h6s with ⟨h6a, h6b⟩ | ⟨h6a, h6b⟩
    · subst h6a
      have hv0 : decide ((0 : Int) ≤ V) = true := by simpa using h6b
      go_wp2_with (first | (go_at_call 22; refine (l_likeTokens_same _ _ n cap1 n cap2 L _ T18.out T28.out).mono ?_; rintro e w9 ⟨rfl, hb⟩; have B9 := Lib.hid (Later.trans B8.out hb); have T19 := Lib.hid (T18.out.later hb); clear hb T18) | (go_at_call 30; refine (IK.out _).mono ?_; rintro e w' ⟨rfl, rfl⟩) | (go_at_call 31; refine (SK.out _).mono ?_; rintro e w10 ⟨rfl, hb⟩; have B10 := Lib.hid (Later.trans B9.out hb); have T1A := Lib.hid (T19.out.later hb); clear hb T19))
      refine (HR.out _ (HW.out.later B10.out)).mono ?_
      rintro e w11 ⟨v3, rfl, o3, hb⟩
      have B11 := Lib.hid (Later.trans B10.out hb)
      have T1B := Lib.hid (T1A.out.later hb)
      obtain ⟨a3, cap3, rfl, _, t3, _, _, _⟩ := o3.tks
      have T3 := Lib.hid t3
      rw [← HN.out] at T3 ⊢
      clear hb o3 t3 T1A
      go_wp2_with (go_at_call 22; refine (l_likeTokens_same _ _ n cap3 n cap1 L _ T3.out T1B.out).mono ?_; rintro e w12 ⟨rfl, hb⟩; have B12 := Lib.hid (Later.trans B11.out hb); clear hb)
      go_ret
      exact ⟨rfl, B12.out⟩
    · have he6 : (E == 6) = false := by simpa using h6a
      have hv0 : decide ((0 : Int) ≤ V) = false := by simp; omega
      have hv1 : ¬ (0 : Int) ≤ V := by omega
      clear h6a
      go_wp2_with (first | (go_at_call 22; refine (l_likeTokens_same _ _ n cap1 n cap2 L _ T18.out T28.out).mono ?_; rintro e w9 ⟨rfl, hb⟩; have B9 := Lib.hid (Later.trans B8.out hb); have T19 := Lib.hid (T18.out.later hb); clear hb T18) | (go_at_call 30; refine (IK.out _).mono ?_; rintro e w' ⟨rfl, rfl⟩) | (go_at_call 31; refine (SK.out _).mono ?_; rintro e w10 ⟨rfl, hb⟩; have B10 := Lib.hid (Later.trans B9.out hb); have T1A := Lib.hid (T19.out.later hb); clear hb T19))
      refine (HR.out _ (HW.out.later B10.out)).mono ?_
      rintro e w11 ⟨v3, rfl, o3, hb⟩
      have B11 := Lib.hid (Later.trans B10.out hb)
      have T1B := Lib.hid (T1A.out.later hb)
      obtain ⟨a3, cap3, rfl, _, t3, _, _, _⟩ := o3.tks
      have T3 := Lib.hid t3
      rw [← HN.out] at T3 ⊢
      clear hb o3 t3 T1A
      go_wp2_with (go_at_call 22; refine (l_likeTokens_same _ _ n cap3 n cap1 L _ T3.out T1B.out).mono ?_; rintro e w12 ⟨rfl, hb⟩; have B12 := Lib.hid (Later.trans B11.out hb); clear hb)
      go_ret
      exact ⟨rfl, B12.out⟩
end Go.Proofs.YtpeebgkgccacbaaDoor
