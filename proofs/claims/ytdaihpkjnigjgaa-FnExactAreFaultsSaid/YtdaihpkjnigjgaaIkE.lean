/- The walks of the exact laws of chapter 11 that start no goroutine (gen/gen_ik.py). -/
import Derived.Test.YtdaihpkjnigjgaaIkN
import Derived.Test.YtdaihpkjnigjgaaIkU
import Derived.Test.YtdaihpkjnigjgaaIkO
namespace Go.Proofs.Ytdaihpkjnigjgaa
open Go.RowKit
set_option maxHeartbeats 4000000
set_option maxRecDepth 100000
set_option linter.unusedVariables false
set_option linter.unusedSimpArgs false
theorem byV_le (p : List Int → List Int → Int → Bool) (B : Int) (n1 n2 : Nat) (l1 l2 : List Int) : (byV p B n1 n2 l1 l2).length ≤ 1000 := by
  unfold byV
  by_cases h : rpE B n1 n2 l1 l2 = 0
  · rw [if_pos h]; exact ckL_le _ _ (rpE_ok h).2.1
  · rw [if_neg h]; simp
theorem pmV_le (B : Int) (l : List Int) (n1 n2 : Nat) (l1 l2 : List Int) : (pmV B l n1 n2 l1 l2).length ≤ 1000 := by
  unfold pmV
  by_cases h : pmE B l n1 n2 l1 l2 = 0
  · rw [if_pos h]
    cases hv : tfB B l
    · rw [pmE_1 hv] at h; simp at h
    · obtain ⟨_, _, _, n4, _⟩ := (tfB_iff B l).1 hv
      exact Nat.le_trans (ckL_len _ _) (by omega)
  · rw [if_neg h]; simp

theorem walk_FnExactAreFaults (a0 : Int) (A1 : Option Addr) (len1 cap1 : Nat) (L1 : List Int) (w : World) (w0 : (Lit.int .i64 a0).wf = true) (c1 : len1 ≤ cap1) (s1 : Wd w A1 len1 3 L1) :
    Calls Try.prog 16 #[.int .i64 a0, .slice A1 len1 cap1] w fun e w' => e = .returned (.bool true) ∧ Later w w' := by
  have HS := Lib.hid s1
  have hn := s1.2.1
  have hR := tf_wf w0
  clear s1 w0
  by_cases hle : len1 ≤ 1048576
  · have HZ := Lib.hid (szT_ok hle)
    obtain ⟨V, SC, IC⟩ : ∃ V : Bool, Hid (∀ (g : Nat) (W : World), Wd W (some ⟨g, 0, none⟩) len1 3 L1 → Calls Try.prog 52 #[.int .i64 a0, .slice (some ⟨g, 0, none⟩) len1 len1] W fun e w' => e = .returned (.bool V) ∧ Later W w') ∧ Hid (∀ (g : Nat) (W : World), Wd W (some ⟨g, 0, none⟩) len1 3 L1 → Calls Try.prog 51 #[.int .i64 a0, .slice (some ⟨g, 0, none⟩) len1 len1] W fun e w' => e = .returned (.bool V) ∧ Later W w') := ⟨ikA a0 len1 L1, Lib.hid (fun g W h => s_AreFaults a0 hR _ len1 len1 L1 W h), Lib.hid (fun g W h => i_AreFaults a0 _ len1 len1 L1 W (Nat.le_refl _) h)⟩
    have e0 : (V != V) = false := by simp
    go_enter Try.func16, Try.ntmps16
    go_wp2_with (go_at_call 77; refine (l_szSensorFaultS _ _ _ _ hn).mono ?_; rw [HZ.out]; rintro e w' ⟨rfl, rfl⟩)
    refine (l_toSensorFaultS A1 len1 cap1 L1 _ HS.out hle).mono ?_
    rintro e w1 ⟨gW, rfl, _, _, ho, hb⟩
    have B1 : Hid (Later w w1) := Lib.hid hb
    have O1 := Lib.hid (OwnF.wd ho)
    clear ho hb
    go_wp2_with fail
    refine (SC.out _ _ O1.out).mono ?_
    rintro e w2 ⟨rfl, hb⟩
    have B2 : Hid (Later w w2) := Lib.hid (B1.out.trans hb)
    clear hb
    go_wp2_with fail
    refine (l_toSensorFaultS A1 len1 cap1 L1 _ (HS.out.later B2.out) hle).mono ?_
    rintro e w3 ⟨gX, rfl, _, _, ho, hb⟩
    have B3 : Hid (Later w w3) := Lib.hid (B2.out.trans hb)
    have O3 := Lib.hid (OwnF.wd ho)
    clear ho hb
    go_wp2_with fail
    refine (IC.out _ _ O3.out).mono ?_
    rintro e w4 ⟨rfl, hb⟩
    have B4 : Hid (Later w w4) := Lib.hid (B3.out.trans hb)
    have O4 := Lib.hid (O3.out.later hb)
    clear hb
    go_wp2_with fail
    refine (l_toSensorFaultS A1 len1 cap1 L1 _ (HS.out.later B4.out) hle).mono ?_
    rintro e w5 ⟨gY, rfl, _, _, ho, hb⟩
    have B5 : Hid (Later w w5) := Lib.hid (B4.out.trans hb)
    have O5 := Lib.hid (OwnF.wd ho)
    have O5' := Lib.hid (O4.out.later hb)
    clear ho hb
    go_wp2_with fail
    refine (l_eqSensorFaultS_same _ _ _ _ _ _ L1 _ O5'.out O5.out).mono ?_
    rintro e w6 ⟨rfl, hb⟩
    have B6 : Hid (Later w w6) := Lib.hid (B5.out.trans hb)
    clear hb
    go_wp2_with fail
    go_ret
    exact ⟨rfl, B6.out⟩
  · have HZ := Lib.hid (szT_big (show 1048576 < len1 by omega))
    go_enter Try.func16, Try.ntmps16
    go_wp2_with (go_at_call 77; refine (l_szSensorFaultS _ _ _ _ hn).mono ?_; rw [HZ.out]; rintro e w' ⟨rfl, rfl⟩)
    go_ret
    exact ⟨rfl, (by repeat (first | (with_reducible exact Later.refl _) | (with_reducible exact Hid.out (by assumption)) | (with_reducible refine Later.alloc ?_ _) | (with_reducible refine Later.setCell ?_ (by simp; omega) _) | (with_reducible refine Later.setCell ?_ (by simp) _) | (with_reducible refine Later.drewN ?_ _) | (with_reducible refine Later.drew ?_) | (with_reducible refine Later.trans ?_ (Hid.out (by assumption)))))⟩
theorem walk_FnExactAreTolerated (a0 : Int) (A1 : Option Addr) (len1 cap1 : Nat) (L1 : List Int) (w : World) (w0 : (Lit.int .i64 a0).wf = true) (c1 : len1 ≤ cap1) (s1 : Wd w A1 len1 3 L1) :
    Calls Try.prog 17 #[.int .i64 a0, .slice A1 len1 cap1] w fun e w' => e = .returned (.bool true) ∧ Later w w' := by
  have HS := Lib.hid s1
  have hn := s1.2.1
  have hR := tf_wf w0
  clear s1 w0
  by_cases hle : len1 ≤ 1048576
  · have HZ := Lib.hid (szT_ok hle)
    obtain ⟨V, SC, IC⟩ : ∃ V : Bool, Hid (∀ (g : Nat) (W : World), Wd W (some ⟨g, 0, none⟩) len1 3 L1 → Calls Try.prog 54 #[.int .i64 a0, .slice (some ⟨g, 0, none⟩) len1 len1] W fun e w' => e = .returned (.bool V) ∧ Later W w') ∧ Hid (∀ (g : Nat) (W : World), Wd W (some ⟨g, 0, none⟩) len1 3 L1 → Calls Try.prog 53 #[.int .i64 a0, .slice (some ⟨g, 0, none⟩) len1 len1] W fun e w' => e = .returned (.bool V) ∧ Later W w') := ⟨ikT a0 len1 L1, Lib.hid (fun g W h => s_AreTolerated a0 hR _ len1 len1 L1 W h), Lib.hid (fun g W h => i_AreTolerated a0 _ len1 len1 L1 W (Nat.le_refl _) h)⟩
    have e0 : (V != V) = false := by simp
    go_enter Try.func17, Try.ntmps17
    go_wp2_with (go_at_call 77; refine (l_szSensorFaultS _ _ _ _ hn).mono ?_; rw [HZ.out]; rintro e w' ⟨rfl, rfl⟩)
    refine (l_toSensorFaultS A1 len1 cap1 L1 _ HS.out hle).mono ?_
    rintro e w1 ⟨gW, rfl, _, _, ho, hb⟩
    have B1 : Hid (Later w w1) := Lib.hid hb
    have O1 := Lib.hid (OwnF.wd ho)
    clear ho hb
    go_wp2_with fail
    refine (SC.out _ _ O1.out).mono ?_
    rintro e w2 ⟨rfl, hb⟩
    have B2 : Hid (Later w w2) := Lib.hid (B1.out.trans hb)
    clear hb
    go_wp2_with fail
    refine (l_toSensorFaultS A1 len1 cap1 L1 _ (HS.out.later B2.out) hle).mono ?_
    rintro e w3 ⟨gX, rfl, _, _, ho, hb⟩
    have B3 : Hid (Later w w3) := Lib.hid (B2.out.trans hb)
    have O3 := Lib.hid (OwnF.wd ho)
    clear ho hb
    go_wp2_with fail
    refine (IC.out _ _ O3.out).mono ?_
    rintro e w4 ⟨rfl, hb⟩
    have B4 : Hid (Later w w4) := Lib.hid (B3.out.trans hb)
    have O4 := Lib.hid (O3.out.later hb)
    clear hb
    go_wp2_with fail
    refine (l_toSensorFaultS A1 len1 cap1 L1 _ (HS.out.later B4.out) hle).mono ?_
    rintro e w5 ⟨gY, rfl, _, _, ho, hb⟩
    have B5 : Hid (Later w w5) := Lib.hid (B4.out.trans hb)
    have O5 := Lib.hid (OwnF.wd ho)
    have O5' := Lib.hid (O4.out.later hb)
    clear ho hb
    go_wp2_with fail
    refine (l_eqSensorFaultS_same _ _ _ _ _ _ L1 _ O5'.out O5.out).mono ?_
    rintro e w6 ⟨rfl, hb⟩
    have B6 : Hid (Later w w6) := Lib.hid (B5.out.trans hb)
    clear hb
    go_wp2_with fail
    go_ret
    exact ⟨rfl, B6.out⟩
  · have HZ := Lib.hid (szT_big (show 1048576 < len1 by omega))
    go_enter Try.func17, Try.ntmps17
    go_wp2_with (go_at_call 77; refine (l_szSensorFaultS _ _ _ _ hn).mono ?_; rw [HZ.out]; rintro e w' ⟨rfl, rfl⟩)
    go_ret
    exact ⟨rfl, (by repeat (first | (with_reducible exact Later.refl _) | (with_reducible exact Hid.out (by assumption)) | (with_reducible refine Later.alloc ?_ _) | (with_reducible refine Later.setCell ?_ (by simp; omega) _) | (with_reducible refine Later.setCell ?_ (by simp) _) | (with_reducible refine Later.drewN ?_ _) | (with_reducible refine Later.drew ?_) | (with_reducible refine Later.trans ?_ (Hid.out (by assumption)))))⟩
theorem walk_FnExactClearBlocks (a0 : Int) (A1 : Option Addr) (m1 q1 : Nat) (L1 : List Int) (B1 : Option Addr) (n1 r1 : Nat) (M1 : List Int) (w : World) (u0 : (Lit.int .i64 a0).wf = true) (c1' : m1 ≤ q1) (s1 : Sl w A1 m1 L1) (c1'' : n1 ≤ r1) (s1' : Sl w B1 n1 M1) :
    Calls Try.prog 19 #[.int .i64 a0, .agg #[.slice A1 m1 q1, .slice B1 n1 r1]] w fun e w' => e = .returned (.bool true) ∧ Later w w' := by
  have HS1 := Lib.hid s1
  have HS2 := Lib.hid s1'
  have hn1 := s1.2.1
  have hn2 := s1'.2.1
  have HL1 := Lib.hid s1.1
  have HL2 := Lib.hid s1'.1
  clear u0
  clear s1 s1'
  by_cases hbr : 1048576 < (m1 : Int) + (n1 : Int)
  · have hzr := Lib.hid (szR_big hbr)
    clear hbr
    go_enter Try.func19, Try.ntmps19
    go_wp2_with (go_at_call 84; refine (l_szReport _ _ _ _ _ _ 1048576 _ (by omega) (by omega) hn1 hn2).mono ?_; rw [hzr.out]; rintro e w1 ⟨rfl, hb⟩; have H := Lib.hid hb; clear hb)
    go_ret
    exact ⟨rfl, (by repeat (first | (with_reducible exact Later.refl _) | (with_reducible exact Hid.out (by assumption)) | (with_reducible refine Later.alloc ?_ _) | (with_reducible refine Later.setCell ?_ (by simp; omega) _) | (with_reducible refine Later.setCell ?_ (by simp) _) | (with_reducible refine Later.drewN ?_ _) | (with_reducible refine Later.drew ?_) | (with_reducible refine Later.trans ?_ (Hid.out (by assumption)))))⟩
  have hle1 : m1 ≤ 1048576 := by omega
  have hle2 : n1 ≤ 1048576 := by omega
  have hzr := Lib.hid (szR_ok (show (m1 : Int) + (n1 : Int) ≤ 1048576 by omega))
  have lr2 : ¬ 1048576 - (m1 : Int) - (n1 : Int) < 0 := by omega
  obtain ⟨LR, hLR⟩ : ∃ LR, LR = 1048576 - (m1 : Int) - (n1 : Int) := ⟨_, rfl⟩
  rw [← hLR] at hzr lr2
  clear hLR hbr
  obtain ⟨V, E, SC, IC, hVl⟩ : ∃ (V : List Int) (E : Int), Hid (∀ (b : Option Addr) (d : Nat) (b2 : Option Addr) (d2 : Nat) (W : World), Sl W b m1 L1 → Sl W b2 n1 M1 → Calls Try.prog 59 #[.int .i64 a0, .agg #[.slice b m1 d, .slice b2 n1 d2]] W (LstC W V E)) ∧ Hid (∀ (b : Option Addr) (d : Nat) (b2 : Option Addr) (d2 : Nat) (W : World), Sl W b m1 L1 → Sl W b2 n1 M1 → Calls Try.prog 57 #[.int .i64 a0, .agg #[.slice b m1 d, .slice b2 n1 d2]] W (LstC W V E)) ∧ V.length ≤ 1000 := ⟨byV clP a0 m1 n1 L1 M1, rpE a0 m1 n1 L1 M1, Lib.hid (fun b d b2 d2 W h1 h2 => s_ClearBlocks a0 b m1 d L1 b2 n1 d2 M1 W h1 h2), Lib.hid (fun b d b2 d2 W h1 h2 => i_ClearBlocks a0 b m1 d L1 b2 n1 d2 M1 W h1 h2), byV_le _ _ _ _ _ _⟩
  have e0 : (E != E) = false := by simp
  go_enter Try.func19, Try.ntmps19
  go_wp2_with fail
  have K0 : Hid (Held [(w.heap.size, 0, .slice A1 m1 q1), (w.heap.size, 1, .slice B1 n1 r1)] w (w.alloc (.cells #[.slice A1 m1 q1, .slice B1 n1 r1] 83))) := Lib.hid (ht_box2 (held_none w) _ _ _)
  refine (l_szReport _ _ _ _ _ _ 1048576 _ (by omega) (by omega) hn1 hn2).mono ?_
  rw [hzr.out]
  rintro e w1 ⟨rfl, hb⟩
  have K1 := Lib.hid (Held.later K0.out (show Later _ w1 from hb))
  have z1 := Later.size (show Later _ w1 from hb)
  try simp only [World.size_alloc] at z1
  clear hb
  clear K0
  obtain ⟨c0, c1, _⟩ := Held.s2 K1.out
  go_wp2_with fail
  clear c0 c1
  refine (l_toReport A1 m1 q1 L1 B1 n1 r1 M1 _ (sl_later HS1.out (show Later w _ from K1.out.2)) hle1 (sl_later HS2.out (show Later w _ from K1.out.2)) hle2).mono ?_
  rintro e w2 ⟨gW1, gW2, rfl, _, _, _, ho1, ho2, hb⟩
  have HX1 := Lib.hid (own_slT ho1)
  have HX2 := Lib.hid (own_slT ho2)
  clear ho1 ho2
  have K2 := Lib.hid (Held.later K1.out (show Later _ w2 from hb))
  have z2 := Later.size (show Later _ w2 from hb)
  try simp only [World.size_alloc] at z2
  clear hb
  clear K1
  obtain ⟨c0, c1, _⟩ := Held.s2 K2.out
  go_wp2_with fail
  clear c0 c1
  refine (SC.out _ _ _ _ _ HX1.out HX2.out).mono ?_
  rintro e w3 ⟨vW, rfl, ho, hb⟩
  obtain ⟨aW, cW, rfl, _, _⟩ := ho.sl
  have bW := ho.lt
  have OW := Lib.hid ho
  clear ho
  have K3 := Lib.hid (Held.later K2.out (show Later _ w3 from hb))
  have z3 := Later.size (show Later _ w3 from hb)
  try simp only [World.size_alloc] at z3
  clear hb
  clear K2
  obtain ⟨bWlo, hbWlo⟩ : ∃ x, x = w2.heap.size := ⟨_, rfl⟩
  rw [← hbWlo] at bW OW
  obtain ⟨c0, c1, _⟩ := Held.s2 K3.out
  go_wp2_with fail
  clear c0 c1
  refine (l_toReport A1 m1 q1 L1 B1 n1 r1 M1 _ (sl_later HS1.out (show Later w _ from K3.out.2)) hle1 (sl_later HS2.out (show Later w _ from K3.out.2)) hle2).mono ?_
  rintro e w4 ⟨gY1, gY2, rfl, hgY1, hgY2, hgY3, ho1, ho2, hb⟩
  try simp only [World.size_alloc] at hgY1
  have OY1 := Lib.hid ho1
  have OY2 := Lib.hid ho2
  clear ho1 ho2
  have K4 := Lib.hid (Held.later K3.out (show Later _ w4 from hb))
  have z4 := Later.size (show Later _ w4 from hb)
  try simp only [World.size_alloc] at z4
  have OW' := Lib.hid (tf_lat OW.out (show Later _ w4 from hb))
  clear OW
  have OW := OW'
  clear OW'
  clear hb
  clear K3
  have K5 := Lib.hid (ht_box2 K4.out (.slice (some ⟨gY1, 0, none⟩) m1 m1) (.slice (some ⟨gY2, 0, none⟩) n1 n1) 48)
  clear K4
  have OW' := Lib.hid (OW.out.alloc (.cells #[.slice (some ⟨gY1, 0, none⟩) m1 m1, .slice (some ⟨gY2, 0, none⟩) n1 n1] 48))
  clear OW
  have OW := OW'
  clear OW'
  have OY1' := Lib.hid (OY1.out.alloc (.cells #[.slice (some ⟨gY1, 0, none⟩) m1 m1, .slice (some ⟨gY2, 0, none⟩) n1 n1] 48))
  clear OY1
  have OY1 := OY1'
  clear OY1'
  have OY2' := Lib.hid (OY2.out.alloc (.cells #[.slice (some ⟨gY1, 0, none⟩) m1 m1, .slice (some ⟨gY2, 0, none⟩) n1 n1] 48))
  clear OY2
  have OY2 := OY2'
  clear OY2'
  obtain ⟨c0, c1, c2, c3, _⟩ := Held.s4 K5.out
  go_wp2_with fail
  clear c0 c1 c2 c3
  refine (IC.out _ _ _ _ _ (own_slT OY1.out) (own_slT OY2.out)).mono ?_
  rintro e w5 ⟨vG, rfl, ho, hb⟩
  try simp only [World.size_alloc] at ho
  obtain ⟨aG, cG, rfl, _, _⟩ := ho.sl
  have bG := ho.lt
  have OG := Lib.hid ho
  clear ho
  have K6 := Lib.hid (Held.later K5.out (show Later _ w5 from hb))
  have z5 := Later.size (show Later _ w5 from hb)
  try simp only [World.size_alloc] at z5
  have OW' := Lib.hid (tf_lat OW.out (show Later _ w5 from hb))
  clear OW
  have OW := OW'
  clear OW'
  have OY1' := Lib.hid (tf_lat OY1.out (show Later _ w5 from hb))
  clear OY1
  have OY1 := OY1'
  clear OY1'
  have OY2' := Lib.hid (tf_lat OY2.out (show Later _ w5 from hb))
  clear OY2
  have OY2 := OY2'
  clear OY2'
  clear hb
  clear K5
  obtain ⟨c0, c1, c2, c3, _⟩ := Held.s4 K6.out
  go_wp2_with fail
  clear c0 c1 c2 c3
  refine (l_eqIT _ _ _ _ _ _ V _ (own_slT OG.out) (own_slT OW.out)).mono ?_
  rintro e w6 ⟨rfl, hb⟩
  have K7 := Lib.hid (Held.later K6.out (show Later _ w6 from hb))
  have z6 := Later.size (show Later _ w6 from hb)
  try simp only [World.size_alloc] at z6
  have OW' := Lib.hid (tf_lat OW.out (show Later _ w6 from hb))
  clear OW
  have OW := OW'
  clear OW'
  have OY1' := Lib.hid (tf_lat OY1.out (show Later _ w6 from hb))
  clear OY1
  have OY1 := OY1'
  clear OY1'
  have OY2' := Lib.hid (tf_lat OY2.out (show Later _ w6 from hb))
  clear OY2
  have OY2 := OY2'
  clear OY2'
  have OG' := Lib.hid (tf_lat OG.out (show Later _ w6 from hb))
  clear OG
  have OG := OG'
  clear OG'
  clear hb
  clear K6
  obtain ⟨c0, c1, c2, c3, _⟩ := Held.s4 K7.out
  go_wp2_with fail
  clear c0 c1 c2 c3
  obtain ⟨wz0, hwz⟩ : ∃ wz0, wz0 = w6 := ⟨_, rfl⟩
  clear hwz wz0
  have KQ : Hid (∀ W', Later w6 W' → Held [(w4.heap.size, 0, .slice (some ⟨gY1, 0, none⟩) m1 m1), (w4.heap.size, 1, .slice (some ⟨gY2, 0, none⟩) n1 n1), (w.heap.size, 0, .slice A1 m1 q1), (w.heap.size, 1, .slice B1 n1 r1)] w W') := Lib.hid (fun W' h => K7.out.later h)
  have KS : Hid (∀ W', Later w6 W' → W'.cell? ⟨w4.heap.size, 0, none⟩ = some (.slice (some ⟨gY1, 0, none⟩) m1 m1) ∧ W'.cell? ⟨w4.heap.size, 1, none⟩ = some (.slice (some ⟨gY2, 0, none⟩) n1 n1) ∧ W'.cell? ⟨w.heap.size, 0, none⟩ = some (.slice A1 m1 q1) ∧ W'.cell? ⟨w.heap.size, 1, none⟩ = some (.slice B1 n1 r1)) := Lib.hid (fun W' h => by obtain ⟨d0, d1, d2, d3, _⟩ := Held.s4 (KQ.out W' h); exact ⟨d0, d1, d2, d3⟩)
  obtain ⟨d0, d1, d2, d3⟩ := KS.out w6 (Later.refl _)
  go_region_held3 (fun w' => w'.cell? ⟨w4.heap.size, 0, none⟩ = some (.slice (some ⟨gY1, 0, none⟩) m1 m1) ∧ w'.cell? ⟨w4.heap.size, 1, none⟩ = some (.slice (some ⟨gY2, 0, none⟩) n1 n1) ∧ w'.cell? ⟨w.heap.size, 0, none⟩ = some (.slice A1 m1 q1) ∧ w'.cell? ⟨w.heap.size, 1, none⟩ = some (.slice B1 n1 r1)) (first | (refine KS.out _ ?_; ((repeat (first | (with_reducible exact Later.refl _) | (with_reducible exact Hid.out (by assumption)) | (with_reducible refine Later.alloc ?_ _) | (with_reducible refine Later.setCell ?_ (by simp; omega) _) | (with_reducible refine Later.setCell ?_ (by simp) _) | (with_reducible refine Later.drewN ?_ _) | (with_reducible refine Later.drew ?_) | (with_reducible refine Later.trans ?_ (Hid.out (by assumption))))); done)))
    (first
      | (go_at_call 85; refine (l_toReport A1 m1 q1 L1 B1 n1 r1 M1 _ (sl_later HS1.out (show Later w _ from (KQ.out _ (show Later w6 _ from (by repeat (first | (with_reducible exact Later.refl _) | (with_reducible exact Hid.out (by assumption)) | (with_reducible refine Later.alloc ?_ _) | (with_reducible refine Later.setCell ?_ (by simp; omega) _) | (with_reducible refine Later.setCell ?_ (by simp) _) | (with_reducible refine Later.drewN ?_ _) | (with_reducible refine Later.drew ?_) | (with_reducible refine Later.trans ?_ (Hid.out (by assumption))))))).2)) hle1 (sl_later HS2.out (show Later w _ from (KQ.out _ (show Later w6 _ from (by repeat (first | (with_reducible exact Later.refl _) | (with_reducible exact Hid.out (by assumption)) | (with_reducible refine Later.alloc ?_ _) | (with_reducible refine Later.setCell ?_ (by simp; omega) _) | (with_reducible refine Later.setCell ?_ (by simp) _) | (with_reducible refine Later.drewN ?_ _) | (with_reducible refine Later.drew ?_) | (with_reducible refine Later.trans ?_ (Hid.out (by assumption))))))).2)) hle2).mono ?_; rintro e wp ⟨gP1, gP2, rfl, _, _, _, hop1, hop2, hbp⟩; have HP := Lib.hid hbp; have OP1 := Lib.hid (own_slT hop1); have OP2 := Lib.hid (own_slT hop2); clear hbp hop1 hop2)
      | (go_at_call 80; refine (l_eqReport _ _ _ _ _ _ _ _ _ _ _ _ L1 M1 _ (sl_later (own_slT OY1.out) (show Later w6 _ from (by repeat (first | (with_reducible exact Later.refl _) | (with_reducible exact Hid.out (by assumption)) | (with_reducible refine Later.alloc ?_ _) | (with_reducible refine Later.setCell ?_ (by simp; omega) _) | (with_reducible refine Later.setCell ?_ (by simp) _) | (with_reducible refine Later.drewN ?_ _) | (with_reducible refine Later.drew ?_) | (with_reducible refine Later.trans ?_ (Hid.out (by assumption))))))) (sl_later (own_slT OY2.out) (show Later w6 _ from (by repeat (first | (with_reducible exact Later.refl _) | (with_reducible exact Hid.out (by assumption)) | (with_reducible refine Later.alloc ?_ _) | (with_reducible refine Later.setCell ?_ (by simp; omega) _) | (with_reducible refine Later.setCell ?_ (by simp) _) | (with_reducible refine Later.drewN ?_ _) | (with_reducible refine Later.drew ?_) | (with_reducible refine Later.trans ?_ (Hid.out (by assumption))))))) (sl_later OP1.out (show Later wp _ from (by repeat (first | (with_reducible exact Later.refl _) | (with_reducible exact Hid.out (by assumption)) | (with_reducible refine Later.alloc ?_ _) | (with_reducible refine Later.setCell ?_ (by simp; omega) _) | (with_reducible refine Later.setCell ?_ (by simp) _) | (with_reducible refine Later.drewN ?_ _) | (with_reducible refine Later.drew ?_) | (with_reducible refine Later.trans ?_ (Hid.out (by assumption))))))) (sl_later OP2.out (show Later wp _ from (by repeat (first | (with_reducible exact Later.refl _) | (with_reducible exact Hid.out (by assumption)) | (with_reducible refine Later.alloc ?_ _) | (with_reducible refine Later.setCell ?_ (by simp; omega) _) | (with_reducible refine Later.setCell ?_ (by simp) _) | (with_reducible refine Later.drewN ?_ _) | (with_reducible refine Later.drew ?_) | (with_reducible refine Later.trans ?_ (Hid.out (by assumption)))))))).mono ?_; rintro e wq ⟨rfl, hbq⟩; have HQ := Lib.hid hbq; clear hbq))
  all_goals
    refine then_into (fun W => Later w6 W) (show Later w6 _ from (by repeat (first | (with_reducible exact Later.refl _) | (with_reducible exact Hid.out (by assumption)) | (with_reducible refine Later.alloc ?_ _) | (with_reducible refine Later.setCell ?_ (by simp; omega) _) | (with_reducible refine Later.setCell ?_ (by simp) _) | (with_reducible refine Later.drewN ?_ _) | (with_reducible refine Later.drew ?_) | (with_reducible refine Later.trans ?_ (Hid.out (by assumption)))))) ?_
    intro w7 hb
    clear HQ HP OP1 OP2 KS KQ d0 d1 d2 d3
    have K8 := Lib.hid (Held.later K7.out (show Later _ w7 from hb))
    have z7 := Later.size (show Later _ w7 from hb)
    try simp only [World.size_alloc] at z7
    have OW' := Lib.hid (tf_lat OW.out (show Later _ w7 from hb))
    clear OW
    have OW := OW'
    clear OW'
    have OY1' := Lib.hid (tf_lat OY1.out (show Later _ w7 from hb))
    clear OY1
    have OY1 := OY1'
    clear OY1'
    have OY2' := Lib.hid (tf_lat OY2.out (show Later _ w7 from hb))
    clear OY2
    have OY2 := OY2'
    clear OY2'
    have OG' := Lib.hid (tf_lat OG.out (show Later _ w7 from hb))
    clear OG
    have OG := OG'
    clear OG'
    clear hb
    clear K7
    obtain ⟨c0, c1, c2, c3, _⟩ := Held.s4 K8.out
    go_wp2_with fail
    clear c0 c1 c2 c3
    refine (l_markReportK gY1 gY2 m1 n1 m1 n1 _ 1 L1 M1 _ OY1.out OY2.out (by omega) HL1.out HL2.out (by omega) (by omega) (by omega) (by omega)).mono ?_
    rintro e w8 ⟨rfl, wm, hg1, hg2⟩
    clear OY1 OY2
    have zg1 := hg1.size
    have zg2 := hg2.size
    have K9 := Lib.hid (ht_grown K8.out hg1 (by intro x hx; simp only [List.mem_cons, List.not_mem_nil, or_false] at hx; rcases hx with rfl | rfl | rfl | rfl <;> (intro e; have e := Option.some.inj e; (try simp only [] at e); omega)) (by intro k e; have e := Option.some.inj e; (try simp only [] at e); omega))
    have OW' := Lib.hid (own_keptT OW.out hg1 (by intro k hk e; have := bW k hk; have e := Option.some.inj e; (try simp only [] at e); omega))
    clear OW
    have OW := OW'
    clear OW'
    have OG' := Lib.hid (own_keptT OG.out hg1 (by intro k hk e; have := bG k hk; have e := Option.some.inj e; (try simp only [] at e); omega))
    clear OG
    have OG := OG'
    clear OG'
    clear K8
    have K10 := Lib.hid (ht_grown K9.out hg2 (by intro x hx; simp only [List.mem_cons, List.not_mem_nil, or_false] at hx; rcases hx with rfl | rfl | rfl | rfl <;> (intro e; have e := Option.some.inj e; (try simp only [] at e); omega)) (by intro k e; have e := Option.some.inj e; (try simp only [] at e); omega))
    have OW' := Lib.hid (own_keptT OW.out hg2 (by intro k hk e; have := bW k hk; have e := Option.some.inj e; (try simp only [] at e); omega))
    clear OW
    have OW := OW'
    clear OW'
    have OG' := Lib.hid (own_keptT OG.out hg2 (by intro k hk e; have := bG k hk; have e := Option.some.inj e; (try simp only [] at e); omega))
    clear OG
    have OG := OG'
    clear OG'
    clear K9
    clear hg1 hg2
    have hk9 : ¬ 1 + (m1 : Int) + (n1 : Int) < 0 := by omega
    obtain ⟨c0, c1, c2, c3, _⟩ := Held.s4 K10.out
    go_wp2_with fail
    clear c0 c1 c2 c3
    refine (l_eqIT _ _ _ _ _ _ V _ (own_slT OG.out) (own_slT OW.out)).mono ?_
    rintro e w9 ⟨rfl, hb⟩
    have K11 := Lib.hid (Held.later K10.out (show Later _ w9 from hb))
    have z9 := Later.size (show Later _ w9 from hb)
    try simp only [World.size_alloc] at z9
    have OW' := Lib.hid (tf_lat OW.out (show Later _ w9 from hb))
    clear OW
    have OW := OW'
    clear OW'
    have OG' := Lib.hid (tf_lat OG.out (show Later _ w9 from hb))
    clear OG
    have OG := OG'
    clear OG'
    clear hb
    clear K10
    obtain ⟨c0, c1, c2, c3, _⟩ := Held.s4 K11.out
    go_wp2_with fail
    clear c0 c1 c2 c3
    refine (l_markInt64S _ _ V _ OG.out (by omega)).mono ?_
    rintro e w10 ⟨rfl, hm, hg⟩
    have OM := Lib.hid hm
    clear hm OG
    have K12 := Lib.hid (ht_grown K11.out hg (by intro x hx; simp only [List.mem_cons, List.not_mem_nil, or_false] at hx; rcases hx with rfl | rfl | rfl | rfl <;> (intro e; have := bG _ e; (try simp only [] at this); omega)) (by intro k e; have := bG k e; omega))
    have z10 := hg.size
    have OW' := Lib.hid (own_keptT OW.out hg (by intro k hk e; have := bW k hk; have := bG k e; omega))
    clear OW
    have OW := OW'
    clear OW'
    clear hg
    clear K11
    obtain ⟨c0, c1, c2, c3, _⟩ := Held.s4 K12.out
    go_wp2_with fail
    clear c0 c1 c2 c3
    refine (l_heldInt64S _ _ V _ OM.out (by omega)).mono ?_
    rintro e w' ⟨rfl, rfl⟩
    obtain ⟨c0, c1, c2, c3, _⟩ := Held.s4 K12.out
    go_wp2_with fail
    clear c0 c1 c2 c3
    refine (l_toReport A1 m1 q1 L1 B1 n1 r1 M1 _ (sl_later HS1.out (show Later w _ from K12.out.2)) hle1 (sl_later HS2.out (show Later w _ from K12.out.2)) hle2).mono ?_
    rintro e w11 ⟨gV1, gV2, rfl, _, _, _, ho1, ho2, hb⟩
    have HX1 := Lib.hid (own_slT ho1)
    have HX2 := Lib.hid (own_slT ho2)
    clear ho1 ho2
    have K13 := Lib.hid (Held.later K12.out (show Later _ w11 from hb))
    have z11 := Later.size (show Later _ w11 from hb)
    try simp only [World.size_alloc] at z11
    have OW' := Lib.hid (tf_lat OW.out (show Later _ w11 from hb))
    clear OW
    have OW := OW'
    clear OW'
    have OM' := Lib.hid (tf_lat OM.out (show Later _ w11 from hb))
    clear OM
    have OM := OM'
    clear OM'
    clear hb
    clear K12
    obtain ⟨c0, c1, c2, c3, _⟩ := Held.s4 K13.out
    go_wp2_with fail
    clear c0 c1 c2 c3
    refine (IC.out _ _ _ _ _ HX1.out HX2.out).mono ?_
    rintro e w12 ⟨vH, rfl, ho, hb⟩
    obtain ⟨aH, cH, rfl, _, _⟩ := ho.sl
    have OH := Lib.hid ho
    clear ho
    have K14 := Lib.hid (Held.later K13.out (show Later _ w12 from hb))
    have z12 := Later.size (show Later _ w12 from hb)
    try simp only [World.size_alloc] at z12
    have OW' := Lib.hid (tf_lat OW.out (show Later _ w12 from hb))
    clear OW
    have OW := OW'
    clear OW'
    have OM' := Lib.hid (tf_lat OM.out (show Later _ w12 from hb))
    clear OM
    have OM := OM'
    clear OM'
    clear hb
    clear K13
    obtain ⟨c0, c1, c2, c3, _⟩ := Held.s4 K14.out
    go_wp2_with fail
    clear c0 c1 c2 c3
    refine (l_eqIT _ _ _ _ _ _ V _ (own_slT OH.out) (own_slT OW.out)).mono ?_
    rintro e w13 ⟨rfl, hb⟩
    have K15 := Lib.hid (Held.later K14.out (show Later _ w13 from hb))
    have z13 := Later.size (show Later _ w13 from hb)
    try simp only [World.size_alloc] at z13
    have OW' := Lib.hid (tf_lat OW.out (show Later _ w13 from hb))
    clear OW
    have OW := OW'
    clear OW'
    have OM' := Lib.hid (tf_lat OM.out (show Later _ w13 from hb))
    clear OM
    have OM := OM'
    clear OM'
    have OH' := Lib.hid (tf_lat OH.out (show Later _ w13 from hb))
    clear OH
    have OH := OH'
    clear OH'
    clear hb
    clear K14
    obtain ⟨c0, c1, c2, c3, _⟩ := Held.s4 K15.out
    go_wp2_with fail
    clear c0 c1 c2 c3
    refine (l_heldInt64S _ _ V _ OM.out (by omega)).mono ?_
    rintro e w' ⟨rfl, rfl⟩
    obtain ⟨c0, c1, c2, c3, _⟩ := Held.s4 K15.out
    go_wp2_with fail
    go_ret
    exact ⟨rfl, K15.out.2⟩
theorem walk_FnExactDiscrepancies (a0 : Int) (A1 : Option Addr) (m1 q1 : Nat) (L1 : List Int) (B1 : Option Addr) (n1 r1 : Nat) (M1 : List Int) (w : World) (u0 : (Lit.int .i64 a0).wf = true) (c1' : m1 ≤ q1) (s1 : Sl w A1 m1 L1) (c1'' : n1 ≤ r1) (s1' : Sl w B1 n1 M1) :
    Calls Try.prog 20 #[.int .i64 a0, .agg #[.slice A1 m1 q1, .slice B1 n1 r1]] w fun e w' => e = .returned (.bool true) ∧ Later w w' := by
  have HS1 := Lib.hid s1
  have HS2 := Lib.hid s1'
  have hn1 := s1.2.1
  have hn2 := s1'.2.1
  have HL1 := Lib.hid s1.1
  have HL2 := Lib.hid s1'.1
  clear u0
  clear s1 s1'
  by_cases hbr : 1048576 < (m1 : Int) + (n1 : Int)
  · have hzr := Lib.hid (szR_big hbr)
    clear hbr
    go_enter Try.func20, Try.ntmps20
    go_wp2_with (go_at_call 84; refine (l_szReport _ _ _ _ _ _ 1048576 _ (by omega) (by omega) hn1 hn2).mono ?_; rw [hzr.out]; rintro e w1 ⟨rfl, hb⟩; have H := Lib.hid hb; clear hb)
    go_ret
    exact ⟨rfl, (by repeat (first | (with_reducible exact Later.refl _) | (with_reducible exact Hid.out (by assumption)) | (with_reducible refine Later.alloc ?_ _) | (with_reducible refine Later.setCell ?_ (by simp; omega) _) | (with_reducible refine Later.setCell ?_ (by simp) _) | (with_reducible refine Later.drewN ?_ _) | (with_reducible refine Later.drew ?_) | (with_reducible refine Later.trans ?_ (Hid.out (by assumption)))))⟩
  have hle1 : m1 ≤ 1048576 := by omega
  have hle2 : n1 ≤ 1048576 := by omega
  have hzr := Lib.hid (szR_ok (show (m1 : Int) + (n1 : Int) ≤ 1048576 by omega))
  have lr2 : ¬ 1048576 - (m1 : Int) - (n1 : Int) < 0 := by omega
  obtain ⟨LR, hLR⟩ : ∃ LR, LR = 1048576 - (m1 : Int) - (n1 : Int) := ⟨_, rfl⟩
  rw [← hLR] at hzr lr2
  clear hLR hbr
  obtain ⟨V, E, SC, IC, hVl⟩ : ∃ (V : List Int) (E : Int), Hid (∀ (b : Option Addr) (d : Nat) (b2 : Option Addr) (d2 : Nat) (W : World), Sl W b m1 L1 → Sl W b2 n1 M1 → Calls Try.prog 56 #[.int .i64 a0, .agg #[.slice b m1 d, .slice b2 n1 d2]] W (LstC W V E)) ∧ Hid (∀ (b : Option Addr) (d : Nat) (b2 : Option Addr) (d2 : Nat) (W : World), Sl W b m1 L1 → Sl W b2 n1 M1 → Calls Try.prog 55 #[.int .i64 a0, .agg #[.slice b m1 d, .slice b2 n1 d2]] W (LstC W V E)) ∧ V.length ≤ 1000 := ⟨byV dsP a0 m1 n1 L1 M1, rpE a0 m1 n1 L1 M1, Lib.hid (fun b d b2 d2 W h1 h2 => s_Discrepancies a0 b m1 d L1 b2 n1 d2 M1 W h1 h2), Lib.hid (fun b d b2 d2 W h1 h2 => i_Discrepancies a0 b m1 d L1 b2 n1 d2 M1 W h1 h2), byV_le _ _ _ _ _ _⟩
  have e0 : (E != E) = false := by simp
  go_enter Try.func20, Try.ntmps20
  go_wp2_with fail
  have K0 : Hid (Held [(w.heap.size, 0, .slice A1 m1 q1), (w.heap.size, 1, .slice B1 n1 r1)] w (w.alloc (.cells #[.slice A1 m1 q1, .slice B1 n1 r1] 83))) := Lib.hid (ht_box2 (held_none w) _ _ _)
  refine (l_szReport _ _ _ _ _ _ 1048576 _ (by omega) (by omega) hn1 hn2).mono ?_
  rw [hzr.out]
  rintro e w1 ⟨rfl, hb⟩
  have K1 := Lib.hid (Held.later K0.out (show Later _ w1 from hb))
  have z1 := Later.size (show Later _ w1 from hb)
  try simp only [World.size_alloc] at z1
  clear hb
  clear K0
  obtain ⟨c0, c1, _⟩ := Held.s2 K1.out
  go_wp2_with fail
  clear c0 c1
  refine (l_toReport A1 m1 q1 L1 B1 n1 r1 M1 _ (sl_later HS1.out (show Later w _ from K1.out.2)) hle1 (sl_later HS2.out (show Later w _ from K1.out.2)) hle2).mono ?_
  rintro e w2 ⟨gW1, gW2, rfl, _, _, _, ho1, ho2, hb⟩
  have HX1 := Lib.hid (own_slT ho1)
  have HX2 := Lib.hid (own_slT ho2)
  clear ho1 ho2
  have K2 := Lib.hid (Held.later K1.out (show Later _ w2 from hb))
  have z2 := Later.size (show Later _ w2 from hb)
  try simp only [World.size_alloc] at z2
  clear hb
  clear K1
  obtain ⟨c0, c1, _⟩ := Held.s2 K2.out
  go_wp2_with fail
  clear c0 c1
  refine (SC.out _ _ _ _ _ HX1.out HX2.out).mono ?_
  rintro e w3 ⟨vW, rfl, ho, hb⟩
  obtain ⟨aW, cW, rfl, _, _⟩ := ho.sl
  have bW := ho.lt
  have OW := Lib.hid ho
  clear ho
  have K3 := Lib.hid (Held.later K2.out (show Later _ w3 from hb))
  have z3 := Later.size (show Later _ w3 from hb)
  try simp only [World.size_alloc] at z3
  clear hb
  clear K2
  obtain ⟨bWlo, hbWlo⟩ : ∃ x, x = w2.heap.size := ⟨_, rfl⟩
  rw [← hbWlo] at bW OW
  obtain ⟨c0, c1, _⟩ := Held.s2 K3.out
  go_wp2_with fail
  clear c0 c1
  refine (l_toReport A1 m1 q1 L1 B1 n1 r1 M1 _ (sl_later HS1.out (show Later w _ from K3.out.2)) hle1 (sl_later HS2.out (show Later w _ from K3.out.2)) hle2).mono ?_
  rintro e w4 ⟨gY1, gY2, rfl, hgY1, hgY2, hgY3, ho1, ho2, hb⟩
  try simp only [World.size_alloc] at hgY1
  have OY1 := Lib.hid ho1
  have OY2 := Lib.hid ho2
  clear ho1 ho2
  have K4 := Lib.hid (Held.later K3.out (show Later _ w4 from hb))
  have z4 := Later.size (show Later _ w4 from hb)
  try simp only [World.size_alloc] at z4
  have OW' := Lib.hid (tf_lat OW.out (show Later _ w4 from hb))
  clear OW
  have OW := OW'
  clear OW'
  clear hb
  clear K3
  have K5 := Lib.hid (ht_box2 K4.out (.slice (some ⟨gY1, 0, none⟩) m1 m1) (.slice (some ⟨gY2, 0, none⟩) n1 n1) 48)
  clear K4
  have OW' := Lib.hid (OW.out.alloc (.cells #[.slice (some ⟨gY1, 0, none⟩) m1 m1, .slice (some ⟨gY2, 0, none⟩) n1 n1] 48))
  clear OW
  have OW := OW'
  clear OW'
  have OY1' := Lib.hid (OY1.out.alloc (.cells #[.slice (some ⟨gY1, 0, none⟩) m1 m1, .slice (some ⟨gY2, 0, none⟩) n1 n1] 48))
  clear OY1
  have OY1 := OY1'
  clear OY1'
  have OY2' := Lib.hid (OY2.out.alloc (.cells #[.slice (some ⟨gY1, 0, none⟩) m1 m1, .slice (some ⟨gY2, 0, none⟩) n1 n1] 48))
  clear OY2
  have OY2 := OY2'
  clear OY2'
  obtain ⟨c0, c1, c2, c3, _⟩ := Held.s4 K5.out
  go_wp2_with fail
  clear c0 c1 c2 c3
  refine (IC.out _ _ _ _ _ (own_slT OY1.out) (own_slT OY2.out)).mono ?_
  rintro e w5 ⟨vG, rfl, ho, hb⟩
  try simp only [World.size_alloc] at ho
  obtain ⟨aG, cG, rfl, _, _⟩ := ho.sl
  have bG := ho.lt
  have OG := Lib.hid ho
  clear ho
  have K6 := Lib.hid (Held.later K5.out (show Later _ w5 from hb))
  have z5 := Later.size (show Later _ w5 from hb)
  try simp only [World.size_alloc] at z5
  have OW' := Lib.hid (tf_lat OW.out (show Later _ w5 from hb))
  clear OW
  have OW := OW'
  clear OW'
  have OY1' := Lib.hid (tf_lat OY1.out (show Later _ w5 from hb))
  clear OY1
  have OY1 := OY1'
  clear OY1'
  have OY2' := Lib.hid (tf_lat OY2.out (show Later _ w5 from hb))
  clear OY2
  have OY2 := OY2'
  clear OY2'
  clear hb
  clear K5
  obtain ⟨c0, c1, c2, c3, _⟩ := Held.s4 K6.out
  go_wp2_with fail
  clear c0 c1 c2 c3
  refine (l_eqIT _ _ _ _ _ _ V _ (own_slT OG.out) (own_slT OW.out)).mono ?_
  rintro e w6 ⟨rfl, hb⟩
  have K7 := Lib.hid (Held.later K6.out (show Later _ w6 from hb))
  have z6 := Later.size (show Later _ w6 from hb)
  try simp only [World.size_alloc] at z6
  have OW' := Lib.hid (tf_lat OW.out (show Later _ w6 from hb))
  clear OW
  have OW := OW'
  clear OW'
  have OY1' := Lib.hid (tf_lat OY1.out (show Later _ w6 from hb))
  clear OY1
  have OY1 := OY1'
  clear OY1'
  have OY2' := Lib.hid (tf_lat OY2.out (show Later _ w6 from hb))
  clear OY2
  have OY2 := OY2'
  clear OY2'
  have OG' := Lib.hid (tf_lat OG.out (show Later _ w6 from hb))
  clear OG
  have OG := OG'
  clear OG'
  clear hb
  clear K6
  obtain ⟨c0, c1, c2, c3, _⟩ := Held.s4 K7.out
  go_wp2_with fail
  clear c0 c1 c2 c3
  obtain ⟨wz0, hwz⟩ : ∃ wz0, wz0 = w6 := ⟨_, rfl⟩
  clear hwz wz0
  have KQ : Hid (∀ W', Later w6 W' → Held [(w4.heap.size, 0, .slice (some ⟨gY1, 0, none⟩) m1 m1), (w4.heap.size, 1, .slice (some ⟨gY2, 0, none⟩) n1 n1), (w.heap.size, 0, .slice A1 m1 q1), (w.heap.size, 1, .slice B1 n1 r1)] w W') := Lib.hid (fun W' h => K7.out.later h)
  have KS : Hid (∀ W', Later w6 W' → W'.cell? ⟨w4.heap.size, 0, none⟩ = some (.slice (some ⟨gY1, 0, none⟩) m1 m1) ∧ W'.cell? ⟨w4.heap.size, 1, none⟩ = some (.slice (some ⟨gY2, 0, none⟩) n1 n1) ∧ W'.cell? ⟨w.heap.size, 0, none⟩ = some (.slice A1 m1 q1) ∧ W'.cell? ⟨w.heap.size, 1, none⟩ = some (.slice B1 n1 r1)) := Lib.hid (fun W' h => by obtain ⟨d0, d1, d2, d3, _⟩ := Held.s4 (KQ.out W' h); exact ⟨d0, d1, d2, d3⟩)
  obtain ⟨d0, d1, d2, d3⟩ := KS.out w6 (Later.refl _)
  go_region_held3 (fun w' => w'.cell? ⟨w4.heap.size, 0, none⟩ = some (.slice (some ⟨gY1, 0, none⟩) m1 m1) ∧ w'.cell? ⟨w4.heap.size, 1, none⟩ = some (.slice (some ⟨gY2, 0, none⟩) n1 n1) ∧ w'.cell? ⟨w.heap.size, 0, none⟩ = some (.slice A1 m1 q1) ∧ w'.cell? ⟨w.heap.size, 1, none⟩ = some (.slice B1 n1 r1)) (first | (refine KS.out _ ?_; ((repeat (first | (with_reducible exact Later.refl _) | (with_reducible exact Hid.out (by assumption)) | (with_reducible refine Later.alloc ?_ _) | (with_reducible refine Later.setCell ?_ (by simp; omega) _) | (with_reducible refine Later.setCell ?_ (by simp) _) | (with_reducible refine Later.drewN ?_ _) | (with_reducible refine Later.drew ?_) | (with_reducible refine Later.trans ?_ (Hid.out (by assumption))))); done)))
    (first
      | (go_at_call 85; refine (l_toReport A1 m1 q1 L1 B1 n1 r1 M1 _ (sl_later HS1.out (show Later w _ from (KQ.out _ (show Later w6 _ from (by repeat (first | (with_reducible exact Later.refl _) | (with_reducible exact Hid.out (by assumption)) | (with_reducible refine Later.alloc ?_ _) | (with_reducible refine Later.setCell ?_ (by simp; omega) _) | (with_reducible refine Later.setCell ?_ (by simp) _) | (with_reducible refine Later.drewN ?_ _) | (with_reducible refine Later.drew ?_) | (with_reducible refine Later.trans ?_ (Hid.out (by assumption))))))).2)) hle1 (sl_later HS2.out (show Later w _ from (KQ.out _ (show Later w6 _ from (by repeat (first | (with_reducible exact Later.refl _) | (with_reducible exact Hid.out (by assumption)) | (with_reducible refine Later.alloc ?_ _) | (with_reducible refine Later.setCell ?_ (by simp; omega) _) | (with_reducible refine Later.setCell ?_ (by simp) _) | (with_reducible refine Later.drewN ?_ _) | (with_reducible refine Later.drew ?_) | (with_reducible refine Later.trans ?_ (Hid.out (by assumption))))))).2)) hle2).mono ?_; rintro e wp ⟨gP1, gP2, rfl, _, _, _, hop1, hop2, hbp⟩; have HP := Lib.hid hbp; have OP1 := Lib.hid (own_slT hop1); have OP2 := Lib.hid (own_slT hop2); clear hbp hop1 hop2)
      | (go_at_call 80; refine (l_eqReport _ _ _ _ _ _ _ _ _ _ _ _ L1 M1 _ (sl_later (own_slT OY1.out) (show Later w6 _ from (by repeat (first | (with_reducible exact Later.refl _) | (with_reducible exact Hid.out (by assumption)) | (with_reducible refine Later.alloc ?_ _) | (with_reducible refine Later.setCell ?_ (by simp; omega) _) | (with_reducible refine Later.setCell ?_ (by simp) _) | (with_reducible refine Later.drewN ?_ _) | (with_reducible refine Later.drew ?_) | (with_reducible refine Later.trans ?_ (Hid.out (by assumption))))))) (sl_later (own_slT OY2.out) (show Later w6 _ from (by repeat (first | (with_reducible exact Later.refl _) | (with_reducible exact Hid.out (by assumption)) | (with_reducible refine Later.alloc ?_ _) | (with_reducible refine Later.setCell ?_ (by simp; omega) _) | (with_reducible refine Later.setCell ?_ (by simp) _) | (with_reducible refine Later.drewN ?_ _) | (with_reducible refine Later.drew ?_) | (with_reducible refine Later.trans ?_ (Hid.out (by assumption))))))) (sl_later OP1.out (show Later wp _ from (by repeat (first | (with_reducible exact Later.refl _) | (with_reducible exact Hid.out (by assumption)) | (with_reducible refine Later.alloc ?_ _) | (with_reducible refine Later.setCell ?_ (by simp; omega) _) | (with_reducible refine Later.setCell ?_ (by simp) _) | (with_reducible refine Later.drewN ?_ _) | (with_reducible refine Later.drew ?_) | (with_reducible refine Later.trans ?_ (Hid.out (by assumption))))))) (sl_later OP2.out (show Later wp _ from (by repeat (first | (with_reducible exact Later.refl _) | (with_reducible exact Hid.out (by assumption)) | (with_reducible refine Later.alloc ?_ _) | (with_reducible refine Later.setCell ?_ (by simp; omega) _) | (with_reducible refine Later.setCell ?_ (by simp) _) | (with_reducible refine Later.drewN ?_ _) | (with_reducible refine Later.drew ?_) | (with_reducible refine Later.trans ?_ (Hid.out (by assumption)))))))).mono ?_; rintro e wq ⟨rfl, hbq⟩; have HQ := Lib.hid hbq; clear hbq))
  all_goals
    refine then_into (fun W => Later w6 W) (show Later w6 _ from (by repeat (first | (with_reducible exact Later.refl _) | (with_reducible exact Hid.out (by assumption)) | (with_reducible refine Later.alloc ?_ _) | (with_reducible refine Later.setCell ?_ (by simp; omega) _) | (with_reducible refine Later.setCell ?_ (by simp) _) | (with_reducible refine Later.drewN ?_ _) | (with_reducible refine Later.drew ?_) | (with_reducible refine Later.trans ?_ (Hid.out (by assumption)))))) ?_
    intro w7 hb
    clear HQ HP OP1 OP2 KS KQ d0 d1 d2 d3
    have K8 := Lib.hid (Held.later K7.out (show Later _ w7 from hb))
    have z7 := Later.size (show Later _ w7 from hb)
    try simp only [World.size_alloc] at z7
    have OW' := Lib.hid (tf_lat OW.out (show Later _ w7 from hb))
    clear OW
    have OW := OW'
    clear OW'
    have OY1' := Lib.hid (tf_lat OY1.out (show Later _ w7 from hb))
    clear OY1
    have OY1 := OY1'
    clear OY1'
    have OY2' := Lib.hid (tf_lat OY2.out (show Later _ w7 from hb))
    clear OY2
    have OY2 := OY2'
    clear OY2'
    have OG' := Lib.hid (tf_lat OG.out (show Later _ w7 from hb))
    clear OG
    have OG := OG'
    clear OG'
    clear hb
    clear K7
    obtain ⟨c0, c1, c2, c3, _⟩ := Held.s4 K8.out
    go_wp2_with fail
    clear c0 c1 c2 c3
    refine (l_markReportK gY1 gY2 m1 n1 m1 n1 _ 1 L1 M1 _ OY1.out OY2.out (by omega) HL1.out HL2.out (by omega) (by omega) (by omega) (by omega)).mono ?_
    rintro e w8 ⟨rfl, wm, hg1, hg2⟩
    clear OY1 OY2
    have zg1 := hg1.size
    have zg2 := hg2.size
    have K9 := Lib.hid (ht_grown K8.out hg1 (by intro x hx; simp only [List.mem_cons, List.not_mem_nil, or_false] at hx; rcases hx with rfl | rfl | rfl | rfl <;> (intro e; have e := Option.some.inj e; (try simp only [] at e); omega)) (by intro k e; have e := Option.some.inj e; (try simp only [] at e); omega))
    have OW' := Lib.hid (own_keptT OW.out hg1 (by intro k hk e; have := bW k hk; have e := Option.some.inj e; (try simp only [] at e); omega))
    clear OW
    have OW := OW'
    clear OW'
    have OG' := Lib.hid (own_keptT OG.out hg1 (by intro k hk e; have := bG k hk; have e := Option.some.inj e; (try simp only [] at e); omega))
    clear OG
    have OG := OG'
    clear OG'
    clear K8
    have K10 := Lib.hid (ht_grown K9.out hg2 (by intro x hx; simp only [List.mem_cons, List.not_mem_nil, or_false] at hx; rcases hx with rfl | rfl | rfl | rfl <;> (intro e; have e := Option.some.inj e; (try simp only [] at e); omega)) (by intro k e; have e := Option.some.inj e; (try simp only [] at e); omega))
    have OW' := Lib.hid (own_keptT OW.out hg2 (by intro k hk e; have := bW k hk; have e := Option.some.inj e; (try simp only [] at e); omega))
    clear OW
    have OW := OW'
    clear OW'
    have OG' := Lib.hid (own_keptT OG.out hg2 (by intro k hk e; have := bG k hk; have e := Option.some.inj e; (try simp only [] at e); omega))
    clear OG
    have OG := OG'
    clear OG'
    clear K9
    clear hg1 hg2
    have hk9 : ¬ 1 + (m1 : Int) + (n1 : Int) < 0 := by omega
    obtain ⟨c0, c1, c2, c3, _⟩ := Held.s4 K10.out
    go_wp2_with fail
    clear c0 c1 c2 c3
    refine (l_eqIT _ _ _ _ _ _ V _ (own_slT OG.out) (own_slT OW.out)).mono ?_
    rintro e w9 ⟨rfl, hb⟩
    have K11 := Lib.hid (Held.later K10.out (show Later _ w9 from hb))
    have z9 := Later.size (show Later _ w9 from hb)
    try simp only [World.size_alloc] at z9
    have OW' := Lib.hid (tf_lat OW.out (show Later _ w9 from hb))
    clear OW
    have OW := OW'
    clear OW'
    have OG' := Lib.hid (tf_lat OG.out (show Later _ w9 from hb))
    clear OG
    have OG := OG'
    clear OG'
    clear hb
    clear K10
    obtain ⟨c0, c1, c2, c3, _⟩ := Held.s4 K11.out
    go_wp2_with fail
    clear c0 c1 c2 c3
    refine (l_markInt64S _ _ V _ OG.out (by omega)).mono ?_
    rintro e w10 ⟨rfl, hm, hg⟩
    have OM := Lib.hid hm
    clear hm OG
    have K12 := Lib.hid (ht_grown K11.out hg (by intro x hx; simp only [List.mem_cons, List.not_mem_nil, or_false] at hx; rcases hx with rfl | rfl | rfl | rfl <;> (intro e; have := bG _ e; (try simp only [] at this); omega)) (by intro k e; have := bG k e; omega))
    have z10 := hg.size
    have OW' := Lib.hid (own_keptT OW.out hg (by intro k hk e; have := bW k hk; have := bG k e; omega))
    clear OW
    have OW := OW'
    clear OW'
    clear hg
    clear K11
    obtain ⟨c0, c1, c2, c3, _⟩ := Held.s4 K12.out
    go_wp2_with fail
    clear c0 c1 c2 c3
    refine (l_heldInt64S _ _ V _ OM.out (by omega)).mono ?_
    rintro e w' ⟨rfl, rfl⟩
    obtain ⟨c0, c1, c2, c3, _⟩ := Held.s4 K12.out
    go_wp2_with fail
    clear c0 c1 c2 c3
    refine (l_toReport A1 m1 q1 L1 B1 n1 r1 M1 _ (sl_later HS1.out (show Later w _ from K12.out.2)) hle1 (sl_later HS2.out (show Later w _ from K12.out.2)) hle2).mono ?_
    rintro e w11 ⟨gV1, gV2, rfl, _, _, _, ho1, ho2, hb⟩
    have HX1 := Lib.hid (own_slT ho1)
    have HX2 := Lib.hid (own_slT ho2)
    clear ho1 ho2
    have K13 := Lib.hid (Held.later K12.out (show Later _ w11 from hb))
    have z11 := Later.size (show Later _ w11 from hb)
    try simp only [World.size_alloc] at z11
    have OW' := Lib.hid (tf_lat OW.out (show Later _ w11 from hb))
    clear OW
    have OW := OW'
    clear OW'
    have OM' := Lib.hid (tf_lat OM.out (show Later _ w11 from hb))
    clear OM
    have OM := OM'
    clear OM'
    clear hb
    clear K12
    obtain ⟨c0, c1, c2, c3, _⟩ := Held.s4 K13.out
    go_wp2_with fail
    clear c0 c1 c2 c3
    refine (IC.out _ _ _ _ _ HX1.out HX2.out).mono ?_
    rintro e w12 ⟨vH, rfl, ho, hb⟩
    obtain ⟨aH, cH, rfl, _, _⟩ := ho.sl
    have OH := Lib.hid ho
    clear ho
    have K14 := Lib.hid (Held.later K13.out (show Later _ w12 from hb))
    have z12 := Later.size (show Later _ w12 from hb)
    try simp only [World.size_alloc] at z12
    have OW' := Lib.hid (tf_lat OW.out (show Later _ w12 from hb))
    clear OW
    have OW := OW'
    clear OW'
    have OM' := Lib.hid (tf_lat OM.out (show Later _ w12 from hb))
    clear OM
    have OM := OM'
    clear OM'
    clear hb
    clear K13
    obtain ⟨c0, c1, c2, c3, _⟩ := Held.s4 K14.out
    go_wp2_with fail
    clear c0 c1 c2 c3
    refine (l_eqIT _ _ _ _ _ _ V _ (own_slT OH.out) (own_slT OW.out)).mono ?_
    rintro e w13 ⟨rfl, hb⟩
    have K15 := Lib.hid (Held.later K14.out (show Later _ w13 from hb))
    have z13 := Later.size (show Later _ w13 from hb)
    try simp only [World.size_alloc] at z13
    have OW' := Lib.hid (tf_lat OW.out (show Later _ w13 from hb))
    clear OW
    have OW := OW'
    clear OW'
    have OM' := Lib.hid (tf_lat OM.out (show Later _ w13 from hb))
    clear OM
    have OM := OM'
    clear OM'
    have OH' := Lib.hid (tf_lat OH.out (show Later _ w13 from hb))
    clear OH
    have OH := OH'
    clear OH'
    clear hb
    clear K14
    obtain ⟨c0, c1, c2, c3, _⟩ := Held.s4 K15.out
    go_wp2_with fail
    clear c0 c1 c2 c3
    refine (l_heldInt64S _ _ V _ OM.out (by omega)).mono ?_
    rintro e w' ⟨rfl, rfl⟩
    obtain ⟨c0, c1, c2, c3, _⟩ := Held.s4 K15.out
    go_wp2_with fail
    go_ret
    exact ⟨rfl, K15.out.2⟩
theorem walk_FnExactPermittedMoves (B0 : Int) (A0 : Option Addr) (len0 cap0 : Nat) (L0 : List Int) (A1 : Option Addr) (m1 q1 : Nat) (L1 : List Int) (B1 : Option Addr) (n1 r1 : Nat) (M1 : List Int) (w : World) (r0 : InR B0) (c0' : len0 ≤ cap0) (s0 : Sl w A0 len0 L0) (c1' : m1 ≤ q1) (s1 : Sl w A1 m1 L1) (c1'' : n1 ≤ r1) (s1' : Sl w B1 n1 M1) :
    Calls Try.prog 21 #[.agg #[.int .i64 B0, .slice A0 len0 cap0], .agg #[.slice A1 m1 q1, .slice B1 n1 r1]] w fun e w' => e = .returned (.bool true) ∧ Later w w' := by
  have HS1 := Lib.hid s1
  have HS2 := Lib.hid s1'
  have hn1 := s1.2.1
  have hn2 := s1'.2.1
  have HL1 := Lib.hid s1.1
  have HL2 := Lib.hid s1'.1
  have HS0 := Lib.hid s0
  have hn0 := s0.2.1
  have HL0 := Lib.hid s0.1
  clear s0
  clear s1 s1'
  by_cases hbig : 1048576 < len0
  · have hz := Lib.hid (szT_big hbig)
    go_enter Try.func21, Try.ntmps21
    go_wp2_with (go_at_call 68; refine (l_szTraffic _ _ _ _ _ hn0).mono ?_; rw [hz.out]; rintro e w1 ⟨rfl, hb⟩; have H := Lib.hid hb; clear hb)
    go_ret
    exact ⟨rfl, (by repeat (first | (with_reducible exact Later.refl _) | (with_reducible exact Hid.out (by assumption)) | (with_reducible refine Later.alloc ?_ _) | (with_reducible refine Later.setCell ?_ (by simp; omega) _) | (with_reducible refine Later.setCell ?_ (by simp) _) | (with_reducible refine Later.drewN ?_ _) | (with_reducible refine Later.drew ?_) | (with_reducible refine Later.trans ?_ (Hid.out (by assumption)))))⟩
  have hle0 : len0 ≤ 1048576 := by omega
  have hz := Lib.hid (szT_ok hle0)
  clear hbig
  obtain ⟨LQ, hLQ⟩ : ∃ LQ, LQ = (1048576 - (len0 : Int)) := ⟨_, rfl⟩
  rw [← hLQ] at hz
  have lq0 : 0 ≤ LQ := by omega
  have lq1 : LQ ≤ 1048576 := by omega
  have lq2 : ¬ LQ < 0 := by omega
  clear hLQ
  by_cases hbr : LQ < (m1 : Int) + (n1 : Int)
  · have hzr := Lib.hid (szR_big hbr)
    clear hbr
    go_enter Try.func21, Try.ntmps21
    go_wp2_with (first | (go_at_call 68; refine (l_szTraffic _ _ _ _ _ hn0).mono ?_; rw [hz.out]; rintro e w1 ⟨rfl, hb⟩; obtain ⟨H1, hcc, hff, hzz⟩ := later_facts hb; clear hb; simp only [World.size_alloc] at hzz hcc hff; have q0 : w1.cell? ⟨w.heap.size + 1, 0, none⟩ = some (.slice A1 m1 q1) := (by rw [hcc _ _ (by omega)]; simp); have q1 : w1.cell? ⟨w.heap.size + 1, 1, none⟩ = some (.slice B1 n1 r1) := (by rw [hcc _ _ (by omega)]; simp); clear hcc hff) | (go_at_call 84; refine (l_szReport _ _ _ _ _ _ LQ _ lq0 lq1 hn1 hn2).mono ?_; rw [hzr.out]; rintro e w2 ⟨rfl, hb⟩; have H2 := Lib.hid hb; clear hb))
    go_ret
    exact ⟨rfl, (by repeat (first | (with_reducible exact Later.refl _) | (with_reducible exact Hid.out (by assumption)) | (with_reducible refine Later.alloc ?_ _) | (with_reducible refine Later.setCell ?_ (by simp; omega) _) | (with_reducible refine Later.setCell ?_ (by simp) _) | (with_reducible refine Later.drewN ?_ _) | (with_reducible refine Later.drew ?_) | (with_reducible refine Later.trans ?_ (Hid.out (by assumption)))))⟩
  have hle1 : m1 ≤ 1048576 := by omega
  have hle2 : n1 ≤ 1048576 := by omega
  have hzr := Lib.hid (szR_ok (show (m1 : Int) + (n1 : Int) ≤ LQ by omega))
  have lr2 : ¬ LQ - (m1 : Int) - (n1 : Int) < 0 := by omega
  obtain ⟨LR, hLR⟩ : ∃ LR, LR = LQ - (m1 : Int) - (n1 : Int) := ⟨_, rfl⟩
  rw [← hLR] at hzr lr2
  clear hLR hbr
  obtain ⟨V, E, SC, IC, hVl⟩ : ∃ (V : List Int) (E : Int), Hid (∀ (a : Option Addr) (c : Nat) (b : Option Addr) (d : Nat) (b2 : Option Addr) (d2 : Nat) (W : World), Sl W a len0 L0 → Sl W b m1 L1 → Sl W b2 n1 M1 → Calls Try.prog 62 #[.agg #[.int .i64 B0, .slice a len0 c], .agg #[.slice b m1 d, .slice b2 n1 d2]] W (LstC W V E)) ∧ Hid (∀ (a : Option Addr) (c : Nat) (b : Option Addr) (d : Nat) (b2 : Option Addr) (d2 : Nat) (W : World), Sl W a len0 L0 → Sl W b m1 L1 → Sl W b2 n1 M1 → Calls Try.prog 61 #[.agg #[.int .i64 B0, .slice a len0 c], .agg #[.slice b m1 d, .slice b2 n1 d2]] W (LstC W V E)) ∧ V.length ≤ 1000 := ⟨pmV B0 L0 m1 n1 L1 M1, pmE B0 L0 m1 n1 L1 M1, Lib.hid (fun a c b d b2 d2 W h0 h1 h2 => s_PermittedMoves B0 a len0 c L0 b m1 d L1 b2 n1 d2 M1 W h0 h1 h2), Lib.hid (fun a c b d b2 d2 W h0 h1 h2 => i_PermittedMoves B0 a len0 c L0 b m1 d L1 b2 n1 d2 M1 W h0 h1 h2), pmV_le _ _ _ _ _ _⟩
  have e0 : (E != E) = false := by simp
  go_enter Try.func21, Try.ntmps21
  go_wp2_with fail
  have K0 : Hid (Held [(w.heap.size + 1, 0, .slice A1 m1 q1), (w.heap.size + 1, 1, .slice B1 n1 r1), (w.heap.size, 0, .int .i64 B0), (w.heap.size, 1, .slice A0 len0 cap0)] w ((w.alloc (.cells #[.int .i64 B0, .slice A0 len0 cap0] 66)).alloc (.cells #[.slice A1 m1 q1, .slice B1 n1 r1] 83))) := Lib.hid (by have := ht_box2 (ht_box2 (held_none w) (.int .i64 B0) (.slice A0 len0 cap0) 66) (.slice A1 m1 q1) (.slice B1 n1 r1) 83; simpa using this)
  refine (l_szTraffic _ _ _ _ _ hn0).mono ?_
  rw [hz.out]
  rintro e w1 ⟨rfl, hb⟩
  have K1 := Lib.hid (Held.later K0.out (show Later _ w1 from hb))
  have z1 := Later.size (show Later _ w1 from hb)
  try simp only [World.size_alloc] at z1
  clear hb
  clear K0
  obtain ⟨c0, c1, c2, c3, _⟩ := Held.s4 K1.out
  go_wp2_with fail
  clear c0 c1 c2 c3
  refine (l_szReport _ _ _ _ _ _ LQ _ lq0 lq1 hn1 hn2).mono ?_
  rw [hzr.out]
  rintro e w2 ⟨rfl, hb⟩
  have K2 := Lib.hid (Held.later K1.out (show Later _ w2 from hb))
  have z2 := Later.size (show Later _ w2 from hb)
  try simp only [World.size_alloc] at z2
  clear hb
  clear K1
  obtain ⟨c0, c1, c2, c3, _⟩ := Held.s4 K2.out
  go_wp2_with fail
  clear c0 c1 c2 c3
  have KQ : Hid (∀ W', Later w2 W' → Held [(w.heap.size + 1, 0, .slice A1 m1 q1), (w.heap.size + 1, 1, .slice B1 n1 r1), (w.heap.size, 0, .int .i64 B0), (w.heap.size, 1, .slice A0 len0 cap0)] w W') := Lib.hid (fun W' h => K2.out.later h)
  have KS : Hid (∀ W', Later w2 W' → W'.cell? ⟨w.heap.size + 1, 0, none⟩ = some (.slice A1 m1 q1) ∧ W'.cell? ⟨w.heap.size + 1, 1, none⟩ = some (.slice B1 n1 r1) ∧ W'.cell? ⟨w.heap.size, 0, none⟩ = some (.int .i64 B0) ∧ W'.cell? ⟨w.heap.size, 1, none⟩ = some (.slice A0 len0 cap0)) := Lib.hid (fun W' h => by obtain ⟨d0, d1, d2, d3, _⟩ := Held.s4 (KQ.out W' h); exact ⟨d0, d1, d2, d3⟩)
  obtain ⟨d0, d1, d2, d3⟩ := KS.out w2 (Later.refl _)
  go_region_held3 (fun w' => w'.cell? ⟨w.heap.size + 1, 0, none⟩ = some (.slice A1 m1 q1) ∧ w'.cell? ⟨w.heap.size + 1, 1, none⟩ = some (.slice B1 n1 r1) ∧ w'.cell? ⟨w.heap.size, 0, none⟩ = some (.int .i64 B0) ∧ w'.cell? ⟨w.heap.size, 1, none⟩ = some (.slice A0 len0 cap0)) (first | (refine KS.out _ ?_; ((repeat (first | (with_reducible exact Later.refl _) | (with_reducible exact Hid.out (by assumption)) | (with_reducible refine Later.alloc ?_ _) | (with_reducible refine Later.setCell ?_ (by simp; omega) _) | (with_reducible refine Later.setCell ?_ (by simp) _) | (with_reducible refine Later.drewN ?_ _) | (with_reducible refine Later.drew ?_) | (with_reducible refine Later.trans ?_ (Hid.out (by assumption))))); done)))
    (first
      | (go_at_call 69; refine (l_toTraffic B0 A0 len0 cap0 L0 _ (sl_later HS0.out (show Later w _ from (KQ.out _ (show Later w2 _ from (by repeat (first | (with_reducible exact Later.refl _) | (with_reducible exact Hid.out (by assumption)) | (with_reducible refine Later.alloc ?_ _) | (with_reducible refine Later.setCell ?_ (by simp; omega) _) | (with_reducible refine Later.setCell ?_ (by simp) _) | (with_reducible refine Later.drewN ?_ _) | (with_reducible refine Later.drew ?_) | (with_reducible refine Later.trans ?_ (Hid.out (by assumption))))))).2)) hle0).mono ?_; rintro e wp ⟨gP, rfl, _, _, hop, hbp⟩; have HPp := Lib.hid hbp; have OP := Lib.hid (own_slT hop); clear hbp hop)
      | (go_at_call 85; refine (l_toReport A1 m1 q1 L1 B1 n1 r1 M1 _ (sl_later HS1.out (show Later w _ from (KQ.out _ (show Later w2 _ from (by repeat (first | (with_reducible exact Later.refl _) | (with_reducible exact Hid.out (by assumption)) | (with_reducible refine Later.alloc ?_ _) | (with_reducible refine Later.setCell ?_ (by simp; omega) _) | (with_reducible refine Later.setCell ?_ (by simp) _) | (with_reducible refine Later.drewN ?_ _) | (with_reducible refine Later.drew ?_) | (with_reducible refine Later.trans ?_ (Hid.out (by assumption))))))).2)) hle1 (sl_later HS2.out (show Later w _ from (KQ.out _ (show Later w2 _ from (by repeat (first | (with_reducible exact Later.refl _) | (with_reducible exact Hid.out (by assumption)) | (with_reducible refine Later.alloc ?_ _) | (with_reducible refine Later.setCell ?_ (by simp; omega) _) | (with_reducible refine Later.setCell ?_ (by simp) _) | (with_reducible refine Later.drewN ?_ _) | (with_reducible refine Later.drew ?_) | (with_reducible refine Later.trans ?_ (Hid.out (by assumption))))))).2)) hle2).mono ?_; rintro e wr ⟨gR1, gR2, rfl, _, _, _, hor1, hor2, hbr⟩; have HPr := Lib.hid hbr; have OR1 := Lib.hid (own_slT hor1); have OR2 := Lib.hid (own_slT hor2); clear hbr hor1 hor2)
      | (go_at_call 62; refine (SC.out _ _ _ _ _ _ _ (sl_later OP.out (show Later wp _ from (by repeat (first | (with_reducible exact Later.refl _) | (with_reducible exact Hid.out (by assumption)) | (with_reducible refine Later.alloc ?_ _) | (with_reducible refine Later.setCell ?_ (by simp; omega) _) | (with_reducible refine Later.setCell ?_ (by simp) _) | (with_reducible refine Later.drewN ?_ _) | (with_reducible refine Later.drew ?_) | (with_reducible refine Later.trans ?_ (Hid.out (by assumption))))))) (sl_later OR1.out (show Later wr _ from (by repeat (first | (with_reducible exact Later.refl _) | (with_reducible exact Hid.out (by assumption)) | (with_reducible refine Later.alloc ?_ _) | (with_reducible refine Later.setCell ?_ (by simp; omega) _) | (with_reducible refine Later.setCell ?_ (by simp) _) | (with_reducible refine Later.drewN ?_ _) | (with_reducible refine Later.drew ?_) | (with_reducible refine Later.trans ?_ (Hid.out (by assumption))))))) (sl_later OR2.out (show Later wr _ from (by repeat (first | (with_reducible exact Later.refl _) | (with_reducible exact Hid.out (by assumption)) | (with_reducible refine Later.alloc ?_ _) | (with_reducible refine Later.setCell ?_ (by simp; omega) _) | (with_reducible refine Later.setCell ?_ (by simp) _) | (with_reducible refine Later.drewN ?_ _) | (with_reducible refine Later.drew ?_) | (with_reducible refine Later.trans ?_ (Hid.out (by assumption)))))))).mono ?_; rintro e wz ⟨vW, rfl, hoz, hbz⟩; have HPz := Lib.hid hbz; have OZ := Lib.hid (tf_mono (b2 := w2.heap.size) hoz (Later.size (show Later w2 _ from (by repeat (first | (with_reducible exact Later.refl _) | (with_reducible exact Hid.out (by assumption)) | (with_reducible refine Later.alloc ?_ _) | (with_reducible refine Later.setCell ?_ (by simp; omega) _) | (with_reducible refine Later.setCell ?_ (by simp) _) | (with_reducible refine Later.drewN ?_ _) | (with_reducible refine Later.drew ?_) | (with_reducible refine Later.trans ?_ (Hid.out (by assumption)))))))); clear hbz hoz))
  all_goals
    obtain ⟨aW, cW, rfl, _, _⟩ := OZ.out.sl
    refine then_into (fun W => Later w2 W ∧ Own W w2.heap.size (.slice aW V.length cW) V) ⟨(show Later w2 _ from (by repeat (first | (with_reducible exact Later.refl _) | (with_reducible exact Hid.out (by assumption)) | (with_reducible refine Later.alloc ?_ _) | (with_reducible refine Later.setCell ?_ (by simp; omega) _) | (with_reducible refine Later.setCell ?_ (by simp) _) | (with_reducible refine Later.drewN ?_ _) | (with_reducible refine Later.drew ?_) | (with_reducible refine Later.trans ?_ (Hid.out (by assumption)))))), tf_lat OZ.out (show Later wz _ from (by repeat (first | (with_reducible exact Later.refl _) | (with_reducible exact Hid.out (by assumption)) | (with_reducible refine Later.alloc ?_ _) | (with_reducible refine Later.setCell ?_ (by simp; omega) _) | (with_reducible refine Later.setCell ?_ (by simp) _) | (with_reducible refine Later.drewN ?_ _) | (with_reducible refine Later.drew ?_) | (with_reducible refine Later.trans ?_ (Hid.out (by assumption))))))⟩ ?_
    rintro w3 ⟨hb, ho⟩
    have bW := ho.lt
    have OW := Lib.hid ho
    clear ho HPp OP HPr OR1 OR2 HPz OZ KS KQ d0 d1 d2 d3
    have K3 := Lib.hid (Held.later K2.out (show Later _ w3 from hb))
    have z3 := Later.size (show Later _ w3 from hb)
    try simp only [World.size_alloc] at z3
    clear hb
    clear K2
    obtain ⟨bWlo, hbWlo⟩ : ∃ x, x = w2.heap.size := ⟨_, rfl⟩
    rw [← hbWlo] at bW OW
    obtain ⟨c0, c1, c2, c3, _⟩ := Held.s4 K3.out
    go_wp2_with fail
    clear c0 c1 c2 c3
    refine (l_toTraffic B0 A0 len0 cap0 L0 _ (sl_later HS0.out (show Later w _ from K3.out.2)) hle0).mono ?_
    rintro e w4 ⟨gX, rfl, hgX, hgX2, ho, hb⟩
    try simp only [World.size_alloc] at hgX
    have OX := Lib.hid ho
    clear ho
    have K4 := Lib.hid (Held.later K3.out (show Later _ w4 from hb))
    have z4 := Later.size (show Later _ w4 from hb)
    try simp only [World.size_alloc] at z4
    have OW' := Lib.hid (tf_lat OW.out (show Later _ w4 from hb))
    clear OW
    have OW := OW'
    clear OW'
    clear hb
    clear K3
    have K5 := Lib.hid (ht_box2 K4.out (.int .i64 B0) (.slice (some ⟨gX, 0, none⟩) len0 len0) 26)
    clear K4
    have OW' := Lib.hid (OW.out.alloc (.cells #[.int .i64 B0, .slice (some ⟨gX, 0, none⟩) len0 len0] 26))
    clear OW
    have OW := OW'
    clear OW'
    have OX' := Lib.hid (OX.out.alloc (.cells #[.int .i64 B0, .slice (some ⟨gX, 0, none⟩) len0 len0] 26))
    clear OX
    have OX := OX'
    clear OX'
    obtain ⟨c0, c1, c2, c3, c4, c5, _⟩ := Held.s6 K5.out
    go_wp2_with fail
    clear c0 c1 c2 c3 c4 c5
    refine (l_toReport A1 m1 q1 L1 B1 n1 r1 M1 _ (sl_later HS1.out (show Later w _ from K5.out.2)) hle1 (sl_later HS2.out (show Later w _ from K5.out.2)) hle2).mono ?_
    rintro e w5 ⟨gY1, gY2, rfl, hgY1, hgY2, hgY3, ho1, ho2, hb⟩
    try simp only [World.size_alloc] at hgY1
    have OY1 := Lib.hid ho1
    have OY2 := Lib.hid ho2
    clear ho1 ho2
    have K6 := Lib.hid (Held.later K5.out (show Later _ w5 from hb))
    have z5 := Later.size (show Later _ w5 from hb)
    try simp only [World.size_alloc] at z5
    have OW' := Lib.hid (tf_lat OW.out (show Later _ w5 from hb))
    clear OW
    have OW := OW'
    clear OW'
    have OX' := Lib.hid (tf_lat OX.out (show Later _ w5 from hb))
    clear OX
    have OX := OX'
    clear OX'
    clear hb
    clear K5
    have K7 := Lib.hid (ht_box2 K6.out (.slice (some ⟨gY1, 0, none⟩) m1 m1) (.slice (some ⟨gY2, 0, none⟩) n1 n1) 48)
    clear K6
    have OW' := Lib.hid (OW.out.alloc (.cells #[.slice (some ⟨gY1, 0, none⟩) m1 m1, .slice (some ⟨gY2, 0, none⟩) n1 n1] 48))
    clear OW
    have OW := OW'
    clear OW'
    have OX' := Lib.hid (OX.out.alloc (.cells #[.slice (some ⟨gY1, 0, none⟩) m1 m1, .slice (some ⟨gY2, 0, none⟩) n1 n1] 48))
    clear OX
    have OX := OX'
    clear OX'
    have OY1' := Lib.hid (OY1.out.alloc (.cells #[.slice (some ⟨gY1, 0, none⟩) m1 m1, .slice (some ⟨gY2, 0, none⟩) n1 n1] 48))
    clear OY1
    have OY1 := OY1'
    clear OY1'
    have OY2' := Lib.hid (OY2.out.alloc (.cells #[.slice (some ⟨gY1, 0, none⟩) m1 m1, .slice (some ⟨gY2, 0, none⟩) n1 n1] 48))
    clear OY2
    have OY2 := OY2'
    clear OY2'
    obtain ⟨c0, c1, c2, c3, c4, c5, c6, c7, _⟩ := Held.s8 K7.out
    go_wp2_with fail
    clear c0 c1 c2 c3 c4 c5 c6 c7
    refine (IC.out _ _ _ _ _ _ _ (own_slT OX.out) (own_slT OY1.out) (own_slT OY2.out)).mono ?_
    rintro e w6 ⟨vG, rfl, ho, hb⟩
    try simp only [World.size_alloc] at ho
    obtain ⟨aG, cG, rfl, _, _⟩ := ho.sl
    have bG := ho.lt
    have OG := Lib.hid ho
    clear ho
    have K8 := Lib.hid (Held.later K7.out (show Later _ w6 from hb))
    have z6 := Later.size (show Later _ w6 from hb)
    try simp only [World.size_alloc] at z6
    have OW' := Lib.hid (tf_lat OW.out (show Later _ w6 from hb))
    clear OW
    have OW := OW'
    clear OW'
    have OX' := Lib.hid (tf_lat OX.out (show Later _ w6 from hb))
    clear OX
    have OX := OX'
    clear OX'
    have OY1' := Lib.hid (tf_lat OY1.out (show Later _ w6 from hb))
    clear OY1
    have OY1 := OY1'
    clear OY1'
    have OY2' := Lib.hid (tf_lat OY2.out (show Later _ w6 from hb))
    clear OY2
    have OY2 := OY2'
    clear OY2'
    clear hb
    clear K7
    obtain ⟨c0, c1, c2, c3, c4, c5, c6, c7, _⟩ := Held.s8 K8.out
    go_wp2_with fail
    clear c0 c1 c2 c3 c4 c5 c6 c7
    refine (l_eqIT _ _ _ _ _ _ V _ (own_slT OG.out) (own_slT OW.out)).mono ?_
    rintro e w7 ⟨rfl, hb⟩
    have K9 := Lib.hid (Held.later K8.out (show Later _ w7 from hb))
    have z7 := Later.size (show Later _ w7 from hb)
    try simp only [World.size_alloc] at z7
    have OW' := Lib.hid (tf_lat OW.out (show Later _ w7 from hb))
    clear OW
    have OW := OW'
    clear OW'
    have OX' := Lib.hid (tf_lat OX.out (show Later _ w7 from hb))
    clear OX
    have OX := OX'
    clear OX'
    have OY1' := Lib.hid (tf_lat OY1.out (show Later _ w7 from hb))
    clear OY1
    have OY1 := OY1'
    clear OY1'
    have OY2' := Lib.hid (tf_lat OY2.out (show Later _ w7 from hb))
    clear OY2
    have OY2 := OY2'
    clear OY2'
    have OG' := Lib.hid (tf_lat OG.out (show Later _ w7 from hb))
    clear OG
    have OG := OG'
    clear OG'
    clear hb
    clear K8
    obtain ⟨c0, c1, c2, c3, c4, c5, c6, c7, _⟩ := Held.s8 K9.out
    go_wp2_with fail
    clear c0 c1 c2 c3 c4 c5 c6 c7
    obtain ⟨wz0, hwz⟩ : ∃ wz0, wz0 = w7 := ⟨_, rfl⟩
    clear hwz wz0
    have KQ : Hid (∀ W', Later w7 W' → Held [(w5.heap.size, 0, .slice (some ⟨gY1, 0, none⟩) m1 m1), (w5.heap.size, 1, .slice (some ⟨gY2, 0, none⟩) n1 n1), (w4.heap.size, 0, .int .i64 B0), (w4.heap.size, 1, .slice (some ⟨gX, 0, none⟩) len0 len0), (w.heap.size + 1, 0, .slice A1 m1 q1), (w.heap.size + 1, 1, .slice B1 n1 r1), (w.heap.size, 0, .int .i64 B0), (w.heap.size, 1, .slice A0 len0 cap0)] w W') := Lib.hid (fun W' h => K9.out.later h)
    have KS : Hid (∀ W', Later w7 W' → W'.cell? ⟨w4.heap.size, 0, none⟩ = some (.int .i64 B0) ∧ W'.cell? ⟨w4.heap.size, 1, none⟩ = some (.slice (some ⟨gX, 0, none⟩) len0 len0) ∧ W'.cell? ⟨w.heap.size, 0, none⟩ = some (.int .i64 B0) ∧ W'.cell? ⟨w.heap.size, 1, none⟩ = some (.slice A0 len0 cap0)) := Lib.hid (fun W' h => by obtain ⟨_, _, d0, d1, _, _, d2, d3, _⟩ := Held.s8 (KQ.out W' h); exact ⟨d0, d1, d2, d3⟩)
    obtain ⟨d0, d1, d2, d3⟩ := KS.out w7 (Later.refl _)
    go_region_held3 (fun w' => w'.cell? ⟨w4.heap.size, 0, none⟩ = some (.int .i64 B0) ∧ w'.cell? ⟨w4.heap.size, 1, none⟩ = some (.slice (some ⟨gX, 0, none⟩) len0 len0) ∧ w'.cell? ⟨w.heap.size, 0, none⟩ = some (.int .i64 B0) ∧ w'.cell? ⟨w.heap.size, 1, none⟩ = some (.slice A0 len0 cap0)) (first | (refine KS.out _ ?_; ((repeat (first | (with_reducible exact Later.refl _) | (with_reducible exact Hid.out (by assumption)) | (with_reducible refine Later.alloc ?_ _) | (with_reducible refine Later.setCell ?_ (by simp; omega) _) | (with_reducible refine Later.setCell ?_ (by simp) _) | (with_reducible refine Later.drewN ?_ _) | (with_reducible refine Later.drew ?_) | (with_reducible refine Later.trans ?_ (Hid.out (by assumption))))); done)))
      (first
        | (go_at_call 69; refine (l_toTraffic B0 A0 len0 cap0 L0 _ (sl_later HS0.out (show Later w _ from (KQ.out _ (show Later w7 _ from (by repeat (first | (with_reducible exact Later.refl _) | (with_reducible exact Hid.out (by assumption)) | (with_reducible refine Later.alloc ?_ _) | (with_reducible refine Later.setCell ?_ (by simp; omega) _) | (with_reducible refine Later.setCell ?_ (by simp) _) | (with_reducible refine Later.drewN ?_ _) | (with_reducible refine Later.drew ?_) | (with_reducible refine Later.trans ?_ (Hid.out (by assumption))))))).2)) hle0).mono ?_; rintro e wp ⟨gP, rfl, _, _, hop, hbp⟩; have HP := Lib.hid hbp; have OP := Lib.hid (own_slT hop); clear hbp hop)
        | (go_at_call 70; refine (l_eqTraffic _ _ _ _ _ _ _ L0 _ (sl_later (own_slT OX.out) (show Later w7 _ from (by repeat (first | (with_reducible exact Later.refl _) | (with_reducible exact Hid.out (by assumption)) | (with_reducible refine Later.alloc ?_ _) | (with_reducible refine Later.setCell ?_ (by simp; omega) _) | (with_reducible refine Later.setCell ?_ (by simp) _) | (with_reducible refine Later.drewN ?_ _) | (with_reducible refine Later.drew ?_) | (with_reducible refine Later.trans ?_ (Hid.out (by assumption))))))) (sl_later OP.out (show Later wp _ from (by repeat (first | (with_reducible exact Later.refl _) | (with_reducible exact Hid.out (by assumption)) | (with_reducible refine Later.alloc ?_ _) | (with_reducible refine Later.setCell ?_ (by simp; omega) _) | (with_reducible refine Later.setCell ?_ (by simp) _) | (with_reducible refine Later.drewN ?_ _) | (with_reducible refine Later.drew ?_) | (with_reducible refine Later.trans ?_ (Hid.out (by assumption)))))))).mono ?_; rintro e wq ⟨rfl, hbq⟩; have HQ := Lib.hid hbq; clear hbq))
    all_goals
      refine then_into (fun W => Later w7 W) (show Later w7 _ from (by repeat (first | (with_reducible exact Later.refl _) | (with_reducible exact Hid.out (by assumption)) | (with_reducible refine Later.alloc ?_ _) | (with_reducible refine Later.setCell ?_ (by simp; omega) _) | (with_reducible refine Later.setCell ?_ (by simp) _) | (with_reducible refine Later.drewN ?_ _) | (with_reducible refine Later.drew ?_) | (with_reducible refine Later.trans ?_ (Hid.out (by assumption)))))) ?_
      intro w8 hb
      clear HQ HP OP KS KQ d0 d1 d2 d3
      have K10 := Lib.hid (Held.later K9.out (show Later _ w8 from hb))
      have z8 := Later.size (show Later _ w8 from hb)
      try simp only [World.size_alloc] at z8
      have OW' := Lib.hid (tf_lat OW.out (show Later _ w8 from hb))
      clear OW
      have OW := OW'
      clear OW'
      have OX' := Lib.hid (tf_lat OX.out (show Later _ w8 from hb))
      clear OX
      have OX := OX'
      clear OX'
      have OY1' := Lib.hid (tf_lat OY1.out (show Later _ w8 from hb))
      clear OY1
      have OY1 := OY1'
      clear OY1'
      have OY2' := Lib.hid (tf_lat OY2.out (show Later _ w8 from hb))
      clear OY2
      have OY2 := OY2'
      clear OY2'
      have OG' := Lib.hid (tf_lat OG.out (show Later _ w8 from hb))
      clear OG
      have OG := OG'
      clear OG'
      clear hb
      clear K9
      obtain ⟨c0, c1, c2, c3, c4, c5, c6, c7, _⟩ := Held.s8 K10.out
      go_wp2_with fail
      clear c0 c1 c2 c3 c4 c5 c6 c7
      obtain ⟨wz0, hwz⟩ : ∃ wz0, wz0 = w8 := ⟨_, rfl⟩
      clear hwz wz0
      have KQ : Hid (∀ W', Later w8 W' → Held [(w5.heap.size, 0, .slice (some ⟨gY1, 0, none⟩) m1 m1), (w5.heap.size, 1, .slice (some ⟨gY2, 0, none⟩) n1 n1), (w4.heap.size, 0, .int .i64 B0), (w4.heap.size, 1, .slice (some ⟨gX, 0, none⟩) len0 len0), (w.heap.size + 1, 0, .slice A1 m1 q1), (w.heap.size + 1, 1, .slice B1 n1 r1), (w.heap.size, 0, .int .i64 B0), (w.heap.size, 1, .slice A0 len0 cap0)] w W') := Lib.hid (fun W' h => K10.out.later h)
      have KS : Hid (∀ W', Later w8 W' → W'.cell? ⟨w5.heap.size, 0, none⟩ = some (.slice (some ⟨gY1, 0, none⟩) m1 m1) ∧ W'.cell? ⟨w5.heap.size, 1, none⟩ = some (.slice (some ⟨gY2, 0, none⟩) n1 n1) ∧ W'.cell? ⟨w.heap.size + 1, 0, none⟩ = some (.slice A1 m1 q1) ∧ W'.cell? ⟨w.heap.size + 1, 1, none⟩ = some (.slice B1 n1 r1)) := Lib.hid (fun W' h => by obtain ⟨d0, d1, _, _, d2, d3, _, _, _⟩ := Held.s8 (KQ.out W' h); exact ⟨d0, d1, d2, d3⟩)
      obtain ⟨d0, d1, d2, d3⟩ := KS.out w8 (Later.refl _)
      go_region_held3 (fun w' => w'.cell? ⟨w5.heap.size, 0, none⟩ = some (.slice (some ⟨gY1, 0, none⟩) m1 m1) ∧ w'.cell? ⟨w5.heap.size, 1, none⟩ = some (.slice (some ⟨gY2, 0, none⟩) n1 n1) ∧ w'.cell? ⟨w.heap.size + 1, 0, none⟩ = some (.slice A1 m1 q1) ∧ w'.cell? ⟨w.heap.size + 1, 1, none⟩ = some (.slice B1 n1 r1)) (first | (refine KS.out _ ?_; ((repeat (first | (with_reducible exact Later.refl _) | (with_reducible exact Hid.out (by assumption)) | (with_reducible refine Later.alloc ?_ _) | (with_reducible refine Later.setCell ?_ (by simp; omega) _) | (with_reducible refine Later.setCell ?_ (by simp) _) | (with_reducible refine Later.drewN ?_ _) | (with_reducible refine Later.drew ?_) | (with_reducible refine Later.trans ?_ (Hid.out (by assumption))))); done)))
        (first
          | (go_at_call 85; refine (l_toReport A1 m1 q1 L1 B1 n1 r1 M1 _ (sl_later HS1.out (show Later w _ from (KQ.out _ (show Later w8 _ from (by repeat (first | (with_reducible exact Later.refl _) | (with_reducible exact Hid.out (by assumption)) | (with_reducible refine Later.alloc ?_ _) | (with_reducible refine Later.setCell ?_ (by simp; omega) _) | (with_reducible refine Later.setCell ?_ (by simp) _) | (with_reducible refine Later.drewN ?_ _) | (with_reducible refine Later.drew ?_) | (with_reducible refine Later.trans ?_ (Hid.out (by assumption))))))).2)) hle1 (sl_later HS2.out (show Later w _ from (KQ.out _ (show Later w8 _ from (by repeat (first | (with_reducible exact Later.refl _) | (with_reducible exact Hid.out (by assumption)) | (with_reducible refine Later.alloc ?_ _) | (with_reducible refine Later.setCell ?_ (by simp; omega) _) | (with_reducible refine Later.setCell ?_ (by simp) _) | (with_reducible refine Later.drewN ?_ _) | (with_reducible refine Later.drew ?_) | (with_reducible refine Later.trans ?_ (Hid.out (by assumption))))))).2)) hle2).mono ?_; rintro e wp ⟨gP1, gP2, rfl, _, _, _, hop1, hop2, hbp⟩; have HP := Lib.hid hbp; have OP1 := Lib.hid (own_slT hop1); have OP2 := Lib.hid (own_slT hop2); clear hbp hop1 hop2)
          | (go_at_call 80; refine (l_eqReport _ _ _ _ _ _ _ _ _ _ _ _ L1 M1 _ (sl_later (own_slT OY1.out) (show Later w8 _ from (by repeat (first | (with_reducible exact Later.refl _) | (with_reducible exact Hid.out (by assumption)) | (with_reducible refine Later.alloc ?_ _) | (with_reducible refine Later.setCell ?_ (by simp; omega) _) | (with_reducible refine Later.setCell ?_ (by simp) _) | (with_reducible refine Later.drewN ?_ _) | (with_reducible refine Later.drew ?_) | (with_reducible refine Later.trans ?_ (Hid.out (by assumption))))))) (sl_later (own_slT OY2.out) (show Later w8 _ from (by repeat (first | (with_reducible exact Later.refl _) | (with_reducible exact Hid.out (by assumption)) | (with_reducible refine Later.alloc ?_ _) | (with_reducible refine Later.setCell ?_ (by simp; omega) _) | (with_reducible refine Later.setCell ?_ (by simp) _) | (with_reducible refine Later.drewN ?_ _) | (with_reducible refine Later.drew ?_) | (with_reducible refine Later.trans ?_ (Hid.out (by assumption))))))) (sl_later OP1.out (show Later wp _ from (by repeat (first | (with_reducible exact Later.refl _) | (with_reducible exact Hid.out (by assumption)) | (with_reducible refine Later.alloc ?_ _) | (with_reducible refine Later.setCell ?_ (by simp; omega) _) | (with_reducible refine Later.setCell ?_ (by simp) _) | (with_reducible refine Later.drewN ?_ _) | (with_reducible refine Later.drew ?_) | (with_reducible refine Later.trans ?_ (Hid.out (by assumption))))))) (sl_later OP2.out (show Later wp _ from (by repeat (first | (with_reducible exact Later.refl _) | (with_reducible exact Hid.out (by assumption)) | (with_reducible refine Later.alloc ?_ _) | (with_reducible refine Later.setCell ?_ (by simp; omega) _) | (with_reducible refine Later.setCell ?_ (by simp) _) | (with_reducible refine Later.drewN ?_ _) | (with_reducible refine Later.drew ?_) | (with_reducible refine Later.trans ?_ (Hid.out (by assumption)))))))).mono ?_; rintro e wq ⟨rfl, hbq⟩; have HQ := Lib.hid hbq; clear hbq))
      all_goals
        refine then_into (fun W => Later w8 W) (show Later w8 _ from (by repeat (first | (with_reducible exact Later.refl _) | (with_reducible exact Hid.out (by assumption)) | (with_reducible refine Later.alloc ?_ _) | (with_reducible refine Later.setCell ?_ (by simp; omega) _) | (with_reducible refine Later.setCell ?_ (by simp) _) | (with_reducible refine Later.drewN ?_ _) | (with_reducible refine Later.drew ?_) | (with_reducible refine Later.trans ?_ (Hid.out (by assumption)))))) ?_
        intro w9 hb
        clear HQ HP OP1 OP2 KS KQ d0 d1 d2 d3
        have K11 := Lib.hid (Held.later K10.out (show Later _ w9 from hb))
        have z9 := Later.size (show Later _ w9 from hb)
        try simp only [World.size_alloc] at z9
        have OW' := Lib.hid (tf_lat OW.out (show Later _ w9 from hb))
        clear OW
        have OW := OW'
        clear OW'
        have OX' := Lib.hid (tf_lat OX.out (show Later _ w9 from hb))
        clear OX
        have OX := OX'
        clear OX'
        have OY1' := Lib.hid (tf_lat OY1.out (show Later _ w9 from hb))
        clear OY1
        have OY1 := OY1'
        clear OY1'
        have OY2' := Lib.hid (tf_lat OY2.out (show Later _ w9 from hb))
        clear OY2
        have OY2 := OY2'
        clear OY2'
        have OG' := Lib.hid (tf_lat OG.out (show Later _ w9 from hb))
        clear OG
        have OG := OG'
        clear OG'
        clear hb
        clear K10
        obtain ⟨c0, c1, c2, c3, c4, c5, c6, c7, _⟩ := Held.s8 K11.out
        go_wp2_with fail
        clear c0 c1 c2 c3 c4 c5 c6 c7
        refine (l_markTraffic _ _ _ L0 _ OX.out (by rw [HL0.out]; omega)).mono ?_
        rintro e w10 ⟨rfl, _, hg⟩
        rw [HL0.out]
        clear OX
        have zg := hg.size
        have K12 := Lib.hid (ht_grown K11.out hg (by intro x hx; simp only [List.mem_cons, List.not_mem_nil, or_false] at hx; rcases hx with rfl | rfl | rfl | rfl | rfl | rfl | rfl | rfl <;> (intro e; have e := Option.some.inj e; (try simp only [] at e); omega)) (by intro k e; have e := Option.some.inj e; (try simp only [] at e); omega))
        have OW' := Lib.hid (own_keptT OW.out hg (by intro k hk e; have := bW k hk; have e := Option.some.inj e; (try simp only [] at e); omega))
        clear OW
        have OW := OW'
        clear OW'
        have OG' := Lib.hid (own_keptT OG.out hg (by intro k hk e; have := bG k hk; have e := Option.some.inj e; (try simp only [] at e); omega))
        clear OG
        have OG := OG'
        clear OG'
        have OY1' := Lib.hid (own_keptT OY1.out hg (by intro k hk e; have hk := Option.some.inj hk; have e := Option.some.inj e; (try simp only [] at e hk); omega))
        clear OY1
        have OY1 := OY1'
        clear OY1'
        have OY2' := Lib.hid (own_keptT OY2.out hg (by intro k hk e; have hk := Option.some.inj hk; have e := Option.some.inj e; (try simp only [] at e hk); omega))
        clear OY2
        have OY2 := OY2'
        clear OY2'
        clear K11
        clear hg
        obtain ⟨c0, c1, c2, c3, c4, c5, c6, c7, _⟩ := Held.s8 K12.out
        go_wp2_with fail
        clear c0 c1 c2 c3 c4 c5 c6 c7
        refine (l_markReportK gY1 gY2 m1 n1 m1 n1 _ (1 + (len0 : Int)) L1 M1 _ OY1.out OY2.out (by omega) HL1.out HL2.out (by omega) (by omega) (by omega) (by omega)).mono ?_
        rintro e w11 ⟨rfl, wm, hg1, hg2⟩
        clear OY1 OY2
        have zg1 := hg1.size
        have zg2 := hg2.size
        have K13 := Lib.hid (ht_grown K12.out hg1 (by intro x hx; simp only [List.mem_cons, List.not_mem_nil, or_false] at hx; rcases hx with rfl | rfl | rfl | rfl | rfl | rfl | rfl | rfl <;> (intro e; have e := Option.some.inj e; (try simp only [] at e); omega)) (by intro k e; have e := Option.some.inj e; (try simp only [] at e); omega))
        have OW' := Lib.hid (own_keptT OW.out hg1 (by intro k hk e; have := bW k hk; have e := Option.some.inj e; (try simp only [] at e); omega))
        clear OW
        have OW := OW'
        clear OW'
        have OG' := Lib.hid (own_keptT OG.out hg1 (by intro k hk e; have := bG k hk; have e := Option.some.inj e; (try simp only [] at e); omega))
        clear OG
        have OG := OG'
        clear OG'
        clear K12
        have K14 := Lib.hid (ht_grown K13.out hg2 (by intro x hx; simp only [List.mem_cons, List.not_mem_nil, or_false] at hx; rcases hx with rfl | rfl | rfl | rfl | rfl | rfl | rfl | rfl <;> (intro e; have e := Option.some.inj e; (try simp only [] at e); omega)) (by intro k e; have e := Option.some.inj e; (try simp only [] at e); omega))
        have OW' := Lib.hid (own_keptT OW.out hg2 (by intro k hk e; have := bW k hk; have e := Option.some.inj e; (try simp only [] at e); omega))
        clear OW
        have OW := OW'
        clear OW'
        have OG' := Lib.hid (own_keptT OG.out hg2 (by intro k hk e; have := bG k hk; have e := Option.some.inj e; (try simp only [] at e); omega))
        clear OG
        have OG := OG'
        clear OG'
        clear K13
        clear hg1 hg2
        have hk9 : ¬ (1 + (len0 : Int)) + (m1 : Int) + (n1 : Int) < 0 := by omega
        obtain ⟨c0, c1, c2, c3, c4, c5, c6, c7, _⟩ := Held.s8 K14.out
        go_wp2_with fail
        clear c0 c1 c2 c3 c4 c5 c6 c7
        refine (l_eqIT _ _ _ _ _ _ V _ (own_slT OG.out) (own_slT OW.out)).mono ?_
        rintro e w12 ⟨rfl, hb⟩
        have K15 := Lib.hid (Held.later K14.out (show Later _ w12 from hb))
        have z12 := Later.size (show Later _ w12 from hb)
        try simp only [World.size_alloc] at z12
        have OW' := Lib.hid (tf_lat OW.out (show Later _ w12 from hb))
        clear OW
        have OW := OW'
        clear OW'
        have OG' := Lib.hid (tf_lat OG.out (show Later _ w12 from hb))
        clear OG
        have OG := OG'
        clear OG'
        clear hb
        clear K14
        obtain ⟨c0, c1, c2, c3, c4, c5, c6, c7, _⟩ := Held.s8 K15.out
        go_wp2_with fail
        clear c0 c1 c2 c3 c4 c5 c6 c7
        refine (l_markInt64S _ _ V _ OG.out (by omega)).mono ?_
        rintro e w13 ⟨rfl, hm, hg⟩
        have OM := Lib.hid hm
        clear hm OG
        have K16 := Lib.hid (ht_grown K15.out hg (by intro x hx; simp only [List.mem_cons, List.not_mem_nil, or_false] at hx; rcases hx with rfl | rfl | rfl | rfl | rfl | rfl | rfl | rfl <;> (intro e; have := bG _ e; (try simp only [] at this); omega)) (by intro k e; have := bG k e; omega))
        have z13 := hg.size
        have OW' := Lib.hid (own_keptT OW.out hg (by intro k hk e; have := bW k hk; have := bG k e; omega))
        clear OW
        have OW := OW'
        clear OW'
        clear hg
        clear K15
        obtain ⟨c0, c1, c2, c3, c4, c5, c6, c7, _⟩ := Held.s8 K16.out
        go_wp2_with fail
        clear c0 c1 c2 c3 c4 c5 c6 c7
        refine (l_heldInt64S _ _ V _ OM.out (by omega)).mono ?_
        rintro e w' ⟨rfl, rfl⟩
        obtain ⟨c0, c1, c2, c3, c4, c5, c6, c7, _⟩ := Held.s8 K16.out
        go_wp2_with fail
        clear c0 c1 c2 c3 c4 c5 c6 c7
        have KQ : Hid (∀ W', Later w13 W' → Held [(w5.heap.size, 0, .slice (some ⟨gY1, 0, none⟩) m1 m1), (w5.heap.size, 1, .slice (some ⟨gY2, 0, none⟩) n1 n1), (w4.heap.size, 0, .int .i64 B0), (w4.heap.size, 1, .slice (some ⟨gX, 0, none⟩) len0 len0), (w.heap.size + 1, 0, .slice A1 m1 q1), (w.heap.size + 1, 1, .slice B1 n1 r1), (w.heap.size, 0, .int .i64 B0), (w.heap.size, 1, .slice A0 len0 cap0)] w W') := Lib.hid (fun W' h => K16.out.later h)
        have KS : Hid (∀ W', Later w13 W' → W'.cell? ⟨w.heap.size + 1, 0, none⟩ = some (.slice A1 m1 q1) ∧ W'.cell? ⟨w.heap.size + 1, 1, none⟩ = some (.slice B1 n1 r1) ∧ W'.cell? ⟨w.heap.size, 0, none⟩ = some (.int .i64 B0) ∧ W'.cell? ⟨w.heap.size, 1, none⟩ = some (.slice A0 len0 cap0)) := Lib.hid (fun W' h => by obtain ⟨_, _, _, _, d0, d1, d2, d3, _⟩ := Held.s8 (KQ.out W' h); exact ⟨d0, d1, d2, d3⟩)
        obtain ⟨d0, d1, d2, d3⟩ := KS.out w13 (Later.refl _)
        go_region_held3 (fun w' => w'.cell? ⟨w.heap.size + 1, 0, none⟩ = some (.slice A1 m1 q1) ∧ w'.cell? ⟨w.heap.size + 1, 1, none⟩ = some (.slice B1 n1 r1) ∧ w'.cell? ⟨w.heap.size, 0, none⟩ = some (.int .i64 B0) ∧ w'.cell? ⟨w.heap.size, 1, none⟩ = some (.slice A0 len0 cap0)) (first | (refine KS.out _ ?_; ((repeat (first | (with_reducible exact Later.refl _) | (with_reducible exact Hid.out (by assumption)) | (with_reducible refine Later.alloc ?_ _) | (with_reducible refine Later.setCell ?_ (by simp; omega) _) | (with_reducible refine Later.setCell ?_ (by simp) _) | (with_reducible refine Later.drewN ?_ _) | (with_reducible refine Later.drew ?_) | (with_reducible refine Later.trans ?_ (Hid.out (by assumption))))); done)))
          (first
            | (go_at_call 69; refine (l_toTraffic B0 A0 len0 cap0 L0 _ (sl_later HS0.out (show Later w _ from (KQ.out _ (show Later w13 _ from (by repeat (first | (with_reducible exact Later.refl _) | (with_reducible exact Hid.out (by assumption)) | (with_reducible refine Later.alloc ?_ _) | (with_reducible refine Later.setCell ?_ (by simp; omega) _) | (with_reducible refine Later.setCell ?_ (by simp) _) | (with_reducible refine Later.drewN ?_ _) | (with_reducible refine Later.drew ?_) | (with_reducible refine Later.trans ?_ (Hid.out (by assumption))))))).2)) hle0).mono ?_; rintro e wp ⟨gP, rfl, _, _, hop, hbp⟩; have HPp := Lib.hid hbp; have OP := Lib.hid (own_slT hop); clear hbp hop)
            | (go_at_call 85; refine (l_toReport A1 m1 q1 L1 B1 n1 r1 M1 _ (sl_later HS1.out (show Later w _ from (KQ.out _ (show Later w13 _ from (by repeat (first | (with_reducible exact Later.refl _) | (with_reducible exact Hid.out (by assumption)) | (with_reducible refine Later.alloc ?_ _) | (with_reducible refine Later.setCell ?_ (by simp; omega) _) | (with_reducible refine Later.setCell ?_ (by simp) _) | (with_reducible refine Later.drewN ?_ _) | (with_reducible refine Later.drew ?_) | (with_reducible refine Later.trans ?_ (Hid.out (by assumption))))))).2)) hle1 (sl_later HS2.out (show Later w _ from (KQ.out _ (show Later w13 _ from (by repeat (first | (with_reducible exact Later.refl _) | (with_reducible exact Hid.out (by assumption)) | (with_reducible refine Later.alloc ?_ _) | (with_reducible refine Later.setCell ?_ (by simp; omega) _) | (with_reducible refine Later.setCell ?_ (by simp) _) | (with_reducible refine Later.drewN ?_ _) | (with_reducible refine Later.drew ?_) | (with_reducible refine Later.trans ?_ (Hid.out (by assumption))))))).2)) hle2).mono ?_; rintro e wr ⟨gR1, gR2, rfl, _, _, _, hor1, hor2, hbr⟩; have HPr := Lib.hid hbr; have OR1 := Lib.hid (own_slT hor1); have OR2 := Lib.hid (own_slT hor2); clear hbr hor1 hor2)
            | (go_at_call 61; refine (IC.out _ _ _ _ _ _ _ (sl_later OP.out (show Later wp _ from (by repeat (first | (with_reducible exact Later.refl _) | (with_reducible exact Hid.out (by assumption)) | (with_reducible refine Later.alloc ?_ _) | (with_reducible refine Later.setCell ?_ (by simp; omega) _) | (with_reducible refine Later.setCell ?_ (by simp) _) | (with_reducible refine Later.drewN ?_ _) | (with_reducible refine Later.drew ?_) | (with_reducible refine Later.trans ?_ (Hid.out (by assumption))))))) (sl_later OR1.out (show Later wr _ from (by repeat (first | (with_reducible exact Later.refl _) | (with_reducible exact Hid.out (by assumption)) | (with_reducible refine Later.alloc ?_ _) | (with_reducible refine Later.setCell ?_ (by simp; omega) _) | (with_reducible refine Later.setCell ?_ (by simp) _) | (with_reducible refine Later.drewN ?_ _) | (with_reducible refine Later.drew ?_) | (with_reducible refine Later.trans ?_ (Hid.out (by assumption))))))) (sl_later OR2.out (show Later wr _ from (by repeat (first | (with_reducible exact Later.refl _) | (with_reducible exact Hid.out (by assumption)) | (with_reducible refine Later.alloc ?_ _) | (with_reducible refine Later.setCell ?_ (by simp; omega) _) | (with_reducible refine Later.setCell ?_ (by simp) _) | (with_reducible refine Later.drewN ?_ _) | (with_reducible refine Later.drew ?_) | (with_reducible refine Later.trans ?_ (Hid.out (by assumption)))))))).mono ?_; rintro e wz ⟨vH, rfl, hoz, hbz⟩; have HPz := Lib.hid hbz; have OZ := Lib.hid (tf_mono (b2 := w13.heap.size) hoz (Later.size (show Later w13 _ from (by repeat (first | (with_reducible exact Later.refl _) | (with_reducible exact Hid.out (by assumption)) | (with_reducible refine Later.alloc ?_ _) | (with_reducible refine Later.setCell ?_ (by simp; omega) _) | (with_reducible refine Later.setCell ?_ (by simp) _) | (with_reducible refine Later.drewN ?_ _) | (with_reducible refine Later.drew ?_) | (with_reducible refine Later.trans ?_ (Hid.out (by assumption)))))))); clear hbz hoz))
        all_goals
          obtain ⟨aH, cH, rfl, _, _⟩ := OZ.out.sl
          refine then_into (fun W => Later w13 W ∧ Own W w13.heap.size (.slice aH V.length cH) V) ⟨(show Later w13 _ from (by repeat (first | (with_reducible exact Later.refl _) | (with_reducible exact Hid.out (by assumption)) | (with_reducible refine Later.alloc ?_ _) | (with_reducible refine Later.setCell ?_ (by simp; omega) _) | (with_reducible refine Later.setCell ?_ (by simp) _) | (with_reducible refine Later.drewN ?_ _) | (with_reducible refine Later.drew ?_) | (with_reducible refine Later.trans ?_ (Hid.out (by assumption)))))), tf_lat OZ.out (show Later wz _ from (by repeat (first | (with_reducible exact Later.refl _) | (with_reducible exact Hid.out (by assumption)) | (with_reducible refine Later.alloc ?_ _) | (with_reducible refine Later.setCell ?_ (by simp; omega) _) | (with_reducible refine Later.setCell ?_ (by simp) _) | (with_reducible refine Later.drewN ?_ _) | (with_reducible refine Later.drew ?_) | (with_reducible refine Later.trans ?_ (Hid.out (by assumption))))))⟩ ?_
          rintro w14 ⟨hb, ho⟩
          have OH := Lib.hid ho
          clear ho HPp OP HPr OR1 OR2 HPz OZ KS KQ d0 d1 d2 d3
          have K17 := Lib.hid (Held.later K16.out (show Later _ w14 from hb))
          have z14 := Later.size (show Later _ w14 from hb)
          try simp only [World.size_alloc] at z14
          have OW' := Lib.hid (tf_lat OW.out (show Later _ w14 from hb))
          clear OW
          have OW := OW'
          clear OW'
          have OM' := Lib.hid (tf_lat OM.out (show Later _ w14 from hb))
          clear OM
          have OM := OM'
          clear OM'
          clear hb
          clear K16
          obtain ⟨c0, c1, c2, c3, c4, c5, c6, c7, _⟩ := Held.s8 K17.out
          go_wp2_with fail
          clear c0 c1 c2 c3 c4 c5 c6 c7
          refine (l_eqIT _ _ _ _ _ _ V _ (own_slT OH.out) (own_slT OW.out)).mono ?_
          rintro e w15 ⟨rfl, hb⟩
          have K18 := Lib.hid (Held.later K17.out (show Later _ w15 from hb))
          have z15 := Later.size (show Later _ w15 from hb)
          try simp only [World.size_alloc] at z15
          have OW' := Lib.hid (tf_lat OW.out (show Later _ w15 from hb))
          clear OW
          have OW := OW'
          clear OW'
          have OM' := Lib.hid (tf_lat OM.out (show Later _ w15 from hb))
          clear OM
          have OM := OM'
          clear OM'
          have OH' := Lib.hid (tf_lat OH.out (show Later _ w15 from hb))
          clear OH
          have OH := OH'
          clear OH'
          clear hb
          clear K17
          obtain ⟨c0, c1, c2, c3, c4, c5, c6, c7, _⟩ := Held.s8 K18.out
          go_wp2_with fail
          clear c0 c1 c2 c3 c4 c5 c6 c7
          refine (l_heldInt64S _ _ V _ OM.out (by omega)).mono ?_
          rintro e w' ⟨rfl, rfl⟩
          obtain ⟨c0, c1, c2, c3, c4, c5, c6, c7, _⟩ := Held.s8 K18.out
          go_wp2_with fail
          go_ret
          exact ⟨rfl, K18.out.2⟩
end Go.Proofs.Ytdaihpkjnigjgaa
