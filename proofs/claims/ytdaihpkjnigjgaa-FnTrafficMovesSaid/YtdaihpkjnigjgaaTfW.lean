/- The walks of chapter 10's laws on moves and uses. -/
import Derived.Test.YtdaihpkjnigjgaaTfE
import Derived.Test.YtdaihpkjnigjgaaTfG
import Derived.Test.YtdaihpkjnigjgaaTfN
import Derived.Test.YtdaihpkjnigjgaaRow
namespace Go.Proofs.Ytdaihpkjnigjgaa
open Go.RowKit
set_option maxHeartbeats 4000000
set_option maxRecDepth 100000
set_option linter.unusedVariables false
set_option linter.unusedSimpArgs false
theorem awE_0 {B : Int} {l : List Int} (h : awE B l = 0) : sfB B l = true := by
  unfold awE at h
  cases hv : tfB B l
  · rw [hv] at h; simp at h
  · cases hf : sfB B l
    · rw [hv, hf] at h; simp at h
    · rfl
set_option maxRecDepth 100000 in
theorem walk_FnTrafficMoves (a0 : Option Addr) (len0 cap0 : Nat) (z0 : List Int) (w : World) (w0 : IsRow .u8 w a0 len0 cap0 z0) :
    Calls Try.prog 3 #[.slice a0 len0 cap0] w fun e w' => e = .returned (.bool true) ∧ Below w.heap.size w w' := by
  have HS := Lib.hid (isRow_bytes w0)
  clear w0
  by_cases hbig : 4096 < len0
  · go_enter Try.func3, Try.ntmps3
    go_wp2_with fail
    refine (l_big _ _ _ _).mono ?_
    rintro e w' ⟨rfl, rfl⟩
    go_wp2
    go_ret
    exact ⟨rfl, Below.refl _ _⟩
  go_enter Try.func3, Try.ntmps3
  go_wp2_with fail
  refine (l_big _ _ _ _).mono ?_
  rintro e w' ⟨rfl, rfl⟩
  go_wp2_with fail
  refine (s_DrawAllowedMoves _ _ _ _ HS.out).mono ?_
  rintro e w1 ⟨Bt, v, l, rfl, hb, ho, h5, hl⟩
  obtain ⟨a2, c2, rfl, hs, _⟩ := ho.sl
  have K1 := Lib.hid (ht_box2 ((held_none w).later hl) (.int .i64 Bt) (.slice a2 l.length c2) 26)
  have SX1 := Lib.hid (sl_later hs ((Later.refl w1).alloc (.cells #[.int .i64 Bt, .slice a2 l.length c2] 26)))
  obtain ⟨E, V, hE0, IA, MA, hVl⟩ : ∃ (E : Int) (V : List Int), (E = 0 → sfB Bt l = true ∧ V = alL Bt l l.length) ∧ Hid (∀ W, Sl W a2 l.length l → Calls Try.prog 26 #[.agg #[.int .i64 Bt, .slice a2 l.length c2]] W (LstC W V E)) ∧ Hid (∀ W, Sl W a2 l.length l → Calls Try.prog 27 #[.agg #[.int .i64 Bt, .slice a2 l.length c2]] W (LstC W V E)) ∧ V.length ≤ 1000 :=
    ⟨awE Bt l, awV Bt l, fun h => ⟨awE_0 h, by unfold awV; rw [awE_0 h]; rfl⟩, Lib.hid (fun W h => i_AllowedMoves Bt a2 _ c2 l W h), Lib.hid (fun W h => s_AllowedMoves Bt a2 _ c2 l W h), awV_le Bt l⟩
  have HE := Lib.hid hE0
  clear ho hs hl hb hE0
  obtain ⟨c0, c1, _⟩ := Held.s2 K1.out
  go_wp2_with fail
  clear c0 c1
  refine (IA.out _ SX1.out).mono ?_
  rintro e w2 ⟨vA, rfl, ho, hl⟩
  obtain ⟨aA, cA, rfl, hsa, _⟩ := ho.sl
  have K2 := Lib.hid (K1.out.later hl)
  have SX2 := Lib.hid (sl_later SX1.out hl)
  have SA := Lib.hid hsa
  clear ho hl hsa K1 SX1
  obtain ⟨c0, c1, _⟩ := Held.s2 K2.out
  go_wp2_with fail
  clear c0 c1
  refine (MA.out _ SX2.out).mono ?_
  rintro e w3 ⟨vB, rfl, ho, hl⟩
  obtain ⟨aB, cB, rfl, hsb, _⟩ := ho.sl
  have K3 := Lib.hid (K2.out.later hl)
  have SX3 := Lib.hid (sl_later SX2.out hl)
  have SA3 := Lib.hid (sl_later SA.out hl)
  have SB3 := Lib.hid hsb
  clear ho hl hsb K2 SX2 SA
  obtain ⟨c0, c1, _⟩ := Held.s2 K3.out
  have KS : Hid (∀ W', Later w3 W' → W'.cell? ⟨w1.heap.size, 0, none⟩ = some (.int .i64 Bt) ∧ W'.cell? ⟨w1.heap.size, 1, none⟩ = some (.slice a2 l.length c2)) := Lib.hid (fun W' h => by obtain ⟨d0, d1, _⟩ := Held.s2 (K3.out.later h); exact ⟨d0, d1⟩)
  have e0 : (E != E) = false := by simp
  go_wp2_with fail
  go_region_held3 (fun w' => w'.cell? ⟨w1.heap.size, 0, none⟩ = some (.int .i64 Bt) ∧ w'.cell? ⟨w1.heap.size, 1, none⟩ = some (.slice a2 l.length c2)) (first | (refine KS.out _ ?_; ((repeat (first | (with_reducible exact Later.refl _) | (with_reducible exact Hid.out (by assumption)) | (with_reducible refine Later.alloc ?_ _) | (with_reducible refine Later.setCell ?_ (by simp; omega) _) | (with_reducible refine Later.setCell ?_ (by simp) _) | (with_reducible refine Later.drewN ?_ _) | (with_reducible refine Later.drew ?_) | (with_reducible refine Later.trans ?_ (Hid.out (by assumption))))); done)))
    (first
      | (go_at_call 28; refine (l_likeInts _ _ _ _ _ _ V _ (sl_later SA3.out (show Later w3 _ from (by repeat (first | (with_reducible exact Later.refl _) | (with_reducible exact Hid.out (by assumption)) | (with_reducible refine Later.alloc ?_ _) | (with_reducible refine Later.setCell ?_ (by simp; omega) _) | (with_reducible refine Later.setCell ?_ (by simp) _) | (with_reducible refine Later.drewN ?_ _) | (with_reducible refine Later.drew ?_) | (with_reducible refine Later.trans ?_ (Hid.out (by assumption))))))) (sl_later SB3.out (show Later w3 _ from (by repeat (first | (with_reducible exact Later.refl _) | (with_reducible exact Hid.out (by assumption)) | (with_reducible refine Later.alloc ?_ _) | (with_reducible refine Later.setCell ?_ (by simp; omega) _) | (with_reducible refine Later.setCell ?_ (by simp) _) | (with_reducible refine Later.drewN ?_ _) | (with_reducible refine Later.drew ?_) | (with_reducible refine Later.trans ?_ (Hid.out (by assumption)))))))).mono ?_; rintro e wl ⟨rfl, hb⟩; have HL1 := Lib.hid hb; clear hb)
      | (go_at_call 29; refine (i_IsTraffic _ _ _ _ l _ (sl_later SX3.out (show Later w3 _ from (by repeat (first | (with_reducible exact Later.refl _) | (with_reducible exact Hid.out (by assumption)) | (with_reducible refine Later.alloc ?_ _) | (with_reducible refine Later.setCell ?_ (by simp; omega) _) | (with_reducible refine Later.setCell ?_ (by simp) _) | (with_reducible refine Later.drewN ?_ _) | (with_reducible refine Later.drew ?_) | (with_reducible refine Later.trans ?_ (Hid.out (by assumption)))))))).mono ?_; rintro e wi ⟨rfl, hb⟩; have HL2 := Lib.hid hb; clear hb)
      | (go_at_call 30; refine (s_IsTraffic _ _ _ _ l _ (sl_later SX3.out (show Later w3 _ from (by repeat (first | (with_reducible exact Later.refl _) | (with_reducible exact Hid.out (by assumption)) | (with_reducible refine Later.alloc ?_ _) | (with_reducible refine Later.setCell ?_ (by simp; omega) _) | (with_reducible refine Later.setCell ?_ (by simp) _) | (with_reducible refine Later.drewN ?_ _) | (with_reducible refine Later.drew ?_) | (with_reducible refine Later.trans ?_ (Hid.out (by assumption)))))))).mono ?_; rintro e ws ⟨rfl, hb⟩; have HL3 := Lib.hid hb; clear hb)
      | (go_at_call 31; refine (i_IsSafeTraffic _ _ _ _ l _ (sl_later SX3.out (show Later w3 _ from (by repeat (first | (with_reducible exact Later.refl _) | (with_reducible exact Hid.out (by assumption)) | (with_reducible refine Later.alloc ?_ _) | (with_reducible refine Later.setCell ?_ (by simp; omega) _) | (with_reducible refine Later.setCell ?_ (by simp) _) | (with_reducible refine Later.drewN ?_ _) | (with_reducible refine Later.drew ?_) | (with_reducible refine Later.trans ?_ (Hid.out (by assumption)))))))).mono ?_; rintro e wj ⟨rfl, hb⟩; have HL4 := Lib.hid hb; clear hb)
      | (go_at_call 32; refine (s_IsSafeTraffic _ _ _ _ l _ (sl_later SX3.out (show Later w3 _ from (by repeat (first | (with_reducible exact Later.refl _) | (with_reducible exact Hid.out (by assumption)) | (with_reducible refine Later.alloc ?_ _) | (with_reducible refine Later.setCell ?_ (by simp; omega) _) | (with_reducible refine Later.setCell ?_ (by simp) _) | (with_reducible refine Later.drewN ?_ _) | (with_reducible refine Later.drew ?_) | (with_reducible refine Later.trans ?_ (Hid.out (by assumption)))))))).mono ?_; rintro e wt ⟨rfl, hb⟩; have HL5 := Lib.hid hb; clear hb))
  all_goals
    refine then_into (fun W => Later w3 W) (show Later w3 _ from (by repeat (first | (with_reducible exact Later.refl _) | (with_reducible exact Hid.out (by assumption)) | (with_reducible refine Later.alloc ?_ _) | (with_reducible refine Later.setCell ?_ (by simp; omega) _) | (with_reducible refine Later.setCell ?_ (by simp) _) | (with_reducible refine Later.drewN ?_ _) | (with_reducible refine Later.drew ?_) | (with_reducible refine Later.trans ?_ (Hid.out (by assumption)))))) ?_
    intro w4 hb
    clear HL1 HL2 HL3 HL4 HL5 KS
    have K4 := Lib.hid (K3.out.later hb)
    have SX4 := Lib.hid (sl_later SX3.out hb)
    have SB4 := Lib.hid (sl_later SB3.out hb)
    clear hb K3 SX3 SB3 SA3 c0 c1
    obtain ⟨c0, c1, _⟩ := Held.s2 K4.out
    by_cases hE : E = 0
    · obtain ⟨hf, rfl⟩ := HE.out hE
      have hv := sfB_tf hf
      subst hE
      obtain ⟨b1, b2, n1, n2, _⟩ := (tfB_iff Bt l).1 hv
      obtain ⟨AL, hAL⟩ : ∃ AL, AL = alL Bt l l.length := ⟨_, rfl⟩
      have HAL := Lib.hid hAL
      have HLV : Hid (¬ 0 < AL.length → Bt ≤ (l.length : Int)) := Lib.hid (fun h => by
        by_cases q : (l.length : Int) < Bt
        · exfalso
          have := live hf q
          rw [← hAL] at this
          cases AL with
          | nil => exact this rfl
          | cons x xs => simp at h
        · omega)
      have HM : Hid (∀ j : Nat, j < l.length → sfB Bt (mvL Bt l j) = decide ((j : Int) ∈ AL)) := Lib.hid (fun j hj => by rw [hAL]; exact al_mem Bt l j hj)
      rw [← hAL] at SB4 ⊢
      clear hAL
      go_wp2_with fail
      clear c0 c1
      go_loopw [8] (fun i wr => ∃ k : Nat, k ≤ l.length ∧ i = .int .i64 k ∧ Held [(w1.heap.size, 0, .int .i64 Bt), (w1.heap.size, 1, .slice a2 l.length c2)] w wr ∧ Later w4 wr) (fun i _ => l.length - (intOf i).toNat)
      case atStart => exact ⟨0, by omega, rfl, K4.out, Later.refl _⟩
      case round =>
        clear K4
        obtain ⟨k, hk, rfl, hh, hg⟩ := hrel
        have K5 := Lib.hid hh; have HG := Lib.hid hg
        clear hh hg
        obtain ⟨c0, c1, _⟩ := Held.s2 K5.out
        by_cases hlt : k < l.length
        · have hlti : (k : Int) < (l.length : Int) := by omega
          have ht : hasT l k = true := (hasT_iff l k).2 ⟨by omega, hlti⟩
          have htr : thE Bt l k = 0 := thE_0 hv ht
          have hmv : mtV Bt l k = mvL Bt l k := by unfold mtV; rw [if_pos htr]; rfl
          have hmb : mtB Bt l k = Bt := by unfold mtB; rw [if_pos htr]
          have QI : Hid (∀ W, Sl W a2 l.length l → Calls Try.prog 33 #[.agg #[.int .i64 Bt, .slice a2 l.length c2], .int .i64 k] W (NewTC W Bt (mvL Bt l k) 0)) := Lib.hid (fun W h => by have := i_MovedTrain Bt a2 l.length c2 l k W h; rw [hmv, hmb, htr] at this; exact this)
          have QS : Hid (∀ W, Sl W a2 l.length l → Calls Try.prog 34 #[.agg #[.int .i64 Bt, .slice a2 l.length c2], .int .i64 k] W (NewTC W Bt (mvL Bt l k) 0)) := Lib.hid (fun W h => by have := s_MovedTrain Bt a2 l.length c2 l k W h; rw [hmv, hmb, htr] at this; exact this)
          have HMk := Lib.hid (HM.out k hlt)
          clear ht htr hmv hmb
          go_wp2_with fail
          refine (QI.out _ (sl_later SX4.out HG.out)).mono ?_
          rintro e w5 ⟨v5, rfl, ho, hl⟩
          obtain ⟨a5, c5, rfl, hs5, _⟩ := ho.sl
          have K6 := Lib.hid (ht_box2 (K5.out.later hl) (.int .i64 Bt) (.slice a5 (mvL Bt l k).length c5) 26)
          have S5 := Lib.hid (sl_later hs5 ((Later.refl w5).alloc (.cells #[.int .i64 Bt, .slice a5 (mvL Bt l k).length c5] 26)))
          have HG5 : Hid (Later w4 (w5.alloc (.cells #[.int .i64 Bt, .slice a5 (mvL Bt l k).length c5] 26))) := Lib.hid ((HG.out.trans hl).alloc _)
          clear ho hl hs5 K5 HG c0 c1
          obtain ⟨c0, c1, c2', c3, _⟩ := Held.s4 K6.out
          go_wp2_with fail
          refine (QS.out _ (sl_later SX4.out HG5.out)).mono ?_
          rintro e w6 ⟨v6, rfl, ho, hl⟩
          obtain ⟨a6, c6, rfl, hs6, _⟩ := ho.sl
          have K7 := Lib.hid (ht_box2 (K6.out.later hl) (.int .i64 Bt) (.slice a6 (mvL Bt l k).length c6) 26)
          have S6 := Lib.hid (sl_later hs6 ((Later.refl w6).alloc (.cells #[.int .i64 Bt, .slice a6 (mvL Bt l k).length c6] 26)))
          have S5' := Lib.hid (sl_later S5.out (show Later _ (w6.alloc (.cells #[.int .i64 Bt, .slice a6 (mvL Bt l k).length c6] 26)) from Later.alloc hl _))
          have HG6 : Hid (Later w4 (w6.alloc (.cells #[.int .i64 Bt, .slice a6 (mvL Bt l k).length c6] 26))) := Lib.hid ((HG5.out.trans hl).alloc _)
          clear ho hl hs6 K6 HG5 S5 c0 c1 c2' c3
          obtain ⟨c0, c1, c2', c3, c4, c5', _⟩ := Held.s6 K7.out
          go_wp2_with fail
          refine (l_likeTraffic9 _ _ _ _ _ _ _ (mvL Bt l k) _ S5'.out S6.out).mono ?_
          rintro e w7 ⟨rfl, hl⟩
          have K8 := Lib.hid (K7.out.later hl)
          have S8 := Lib.hid (sl_later S5'.out hl)
          have HG8 := Lib.hid (HG6.out.trans hl)
          clear hl K7 HG6 S5' S6 c0 c1 c2' c3 c4 c5'
          obtain ⟨c0, c1, c2', c3, c4, c5', _⟩ := Held.s6 K8.out
          go_wp2_with fail
          refine (i_IsSafeTraffic _ _ _ _ (mvL Bt l k) _ S8.out).mono ?_
          rintro e w8 ⟨rfl, hl⟩
          have K9 := Lib.hid (K8.out.later hl)
          have HG9 := Lib.hid (HG8.out.trans hl)
          rw [HMk.out]
          clear hl K8 HG8 S8 c0 c1 c2' c3 c4 c5'
          obtain ⟨_, _, _, _, c0, c1, _⟩ := Held.s6 K9.out
          go_wp2_with fail
          refine (l_hasIntT _ _ _ AL (k : Int) _ (sl_later SB4.out HG9.out)).mono ?_
          rintro e w9 ⟨rfl, hl⟩
          have K10 := Lib.hid (K9.out.later hl)
          have HG10 := Lib.hid (HG9.out.trans hl)
          clear hl K9 HG9 c0 c1
          have K11 : Hid (Held [(w1.heap.size, 0, .int .i64 Bt), (w1.heap.size, 1, .slice a2 l.length c2)] w w9) := Lib.hid ⟨fun x hx => K10.out.1 x (by simp at hx; rcases hx with rfl | rfl <;> simp), K10.out.2⟩
          clear K10
          go_wp2_with fail
          go_roundw
          case rel => exact ⟨k + 1, by omega, by go_num, K11.out, HG10.out⟩
          case measure => simp [intOf]; omega
        · have hlti : ¬ (k : Int) < (l.length : Int) := by omega
          by_cases hp : 0 < AL.length
          · have hpi : (0 : Int) < (AL.length : Int) := by omega
            go_wp2_with fail
            go_ret
            exact ⟨rfl, K5.out.2⟩
          · have hpi : ¬ (0 : Int) < (AL.length : Int) := by omega
            have hbt := HLV.out hp
            go_wp2_with fail
            go_ret
            exact ⟨rfl, K5.out.2⟩
    · have e1 : (E != 0) = true := by simpa using hE
      go_wp2_with fail
      go_ret
      exact ⟨rfl, K4.out.2⟩
end Go.Proofs.Ytdaihpkjnigjgaa
