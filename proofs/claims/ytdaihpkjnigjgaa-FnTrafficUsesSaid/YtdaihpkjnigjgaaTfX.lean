/- The walk of FnTrafficUses. -/
import Derived.Test.YtdaihpkjnigjgaaTfE
import Derived.Test.YtdaihpkjnigjgaaTfH
import Derived.Test.YtdaihpkjnigjgaaTfN
import Derived.Test.YtdaihpkjnigjgaaRow
namespace Go.Proofs.Ytdaihpkjnigjgaa
open Go.RowKit
set_option maxHeartbeats 4000000
set_option maxRecDepth 100000
set_option linter.unusedVariables false
set_option linter.unusedSimpArgs false
theorem usE_0 {B : Int} {l : List Int} (h : usE B l = 0) : tfB B l = true := by
  unfold usE at h
  cases hv : tfB B l
  · rw [hv] at h; simp at h
  · rfl
theorem usE_n {B : Int} {l : List Int} (h : ¬ usE B l = 0) : sfB B l = false := by
  cases hv : tfB B l
  · exact sfB_bad hv
  · exfalso; apply h; unfold usE; rw [hv]; rfl
set_option maxRecDepth 100000 in
theorem walk_FnTrafficUses (a0 : Option Addr) (len0 cap0 : Nat) (z0 : List Int) (w : World) (w0 : IsRow .u8 w a0 len0 cap0 z0) :
    Calls Try.prog 4 #[.slice a0 len0 cap0] w fun e w' => e = .returned (.bool true) ∧ Below w.heap.size w w' := by
  have HS := Lib.hid (isRow_bytes w0)
  clear w0
  by_cases hbig : 4096 < len0
  · go_enter Try.func4, Try.ntmps4
    go_wp2_with fail
    refine (l_big _ _ _ _).mono ?_
    rintro e w' ⟨rfl, rfl⟩
    go_wp2
    go_ret
    exact ⟨rfl, Below.refl _ _⟩
  go_enter Try.func4, Try.ntmps4
  go_wp2_with fail
  refine (l_big _ _ _ _).mono ?_
  rintro e w' ⟨rfl, rfl⟩
  go_wp2_with fail
  refine (s_DrawUsesOfBlocks _ _ _ _ HS.out).mono ?_
  rintro e w1 ⟨Bt, v, l, rfl, hb, ho, h5, hl⟩
  obtain ⟨a2, c2, rfl, hs, _⟩ := ho.sl
  have K1 := Lib.hid (ht_box2 ((held_none w).later hl) (.int .i64 Bt) (.slice a2 l.length c2) 26)
  have SX1 := Lib.hid (sl_later hs ((Later.refl w1).alloc (.cells #[.int .i64 Bt, .slice a2 l.length c2] 26)))
  obtain ⟨E, V, hE0, hE1, IA, MA, hVl⟩ : ∃ (E : Int) (V : List Int), (E = 0 → tfB Bt l = true ∧ V = ldL Bt l) ∧ (¬ E = 0 → sfB Bt l = false) ∧ Hid (∀ W, Sl W a2 l.length l → Calls Try.prog 38 #[.agg #[.int .i64 Bt, .slice a2 l.length c2]] W (LstC W V E)) ∧ Hid (∀ W, Sl W a2 l.length l → Calls Try.prog 39 #[.agg #[.int .i64 Bt, .slice a2 l.length c2]] W (LstC W V E)) ∧ V.length ≤ 1000 :=
    ⟨usE Bt l, usV Bt l, fun h => ⟨usE_0 h, by unfold usV; rw [usE_0 h]; rfl⟩, usE_n, Lib.hid (fun W h => i_UsesOfBlocks Bt a2 _ c2 l W h), Lib.hid (fun W h => s_UsesOfBlocks Bt a2 _ c2 l W h), usV_le Bt l⟩
  have HE := Lib.hid hE0; have HE1 := Lib.hid hE1
  clear ho hs hl hb hE0 hE1
  obtain ⟨c0, c1, _⟩ := Held.s2 K1.out
  go_wp2_with fail
  clear c0 c1
  refine (IA.out _ SX1.out).mono ?_
  rintro e w2 ⟨vA, rfl, ho, hl⟩
  obtain ⟨aA, cA, rfl, hsa, _⟩ := ho.sl
  have K2 := Lib.hid (K1.out.later hl)
  have SX2 := Lib.hid (sl_later SX1.out hl)
  have SA := Lib.hid hsa
  clear ho hl hsa K1 SX1
  obtain ⟨c0, c1, _⟩ := Held.s2 K2.out
  go_wp2_with fail
  clear c0 c1
  refine (MA.out _ SX2.out).mono ?_
  rintro e w3 ⟨vB, rfl, ho, hl⟩
  obtain ⟨aB, cB, rfl, hsb, _⟩ := ho.sl
  have K3 := Lib.hid (K2.out.later hl)
  have SX3 := Lib.hid (sl_later SX2.out hl)
  have SA3 := Lib.hid (sl_later SA.out hl)
  have SB3 := Lib.hid hsb
  clear ho hl hsb K2 SX2 SA
  have e0 : (E != E) = false := by simp
  obtain ⟨c0, c1, _⟩ := Held.s2 K3.out
  go_wp2_with fail
  refine (l_likeInts _ _ _ _ _ _ V _ SA3.out SB3.out).mono ?_
  rintro e w4 ⟨rfl, hl⟩
  have K4 := Lib.hid (K3.out.later hl)
  have SX4 := Lib.hid (sl_later SX3.out hl)
  have SA4 := Lib.hid (sl_later SA3.out hl)
  clear hl K3 SX3 SA3 SB3 c0 c1
  obtain ⟨c0, c1, _⟩ := Held.s2 K4.out
  by_cases hE : E = 0
  · obtain ⟨hv, rfl⟩ := HE.out hE
    subst hE
    obtain ⟨b1, b2, n1, n2, hp⟩ := (tfB_iff Bt l).1 hv
    have HP := Lib.hid hp
    obtain ⟨bn, rfl⟩ := Int.eq_ofNat_of_zero_le (show 0 ≤ Bt by omega)
    have hB1 : 2 ≤ bn := by omega
    have hB2 : bn ≤ 8 := by omega
    have hz4 : w1.heap.size + 1 ≤ w4.heap.size := Held.lt K4.out w1.heap.size 0 (.int .i64 bn) (by simp)
    obtain ⟨i0, hi, hz0, hz1, hz2⟩ := info_parts info_i64
    have HI := Lib.hid hi; clear hi
    have HZ0 := Lib.hid hz0; clear hz0
    have HZ1 := Lib.hid hz1; clear hz1
    have HZ2 := Lib.hid hz2; clear hz2
    clear hp
    go_wp2_with (refine wpList_make_full _ rfl _ _ _ rfl (w1.heap.size + 1) 2 i0 (.int .i64 0) 1 Try.underlying24 HI.out HZ0.out HZ1.out _ _ _ _ bn rfl rfl (by omega) (by omega) (by rw [HZ2.out]; omega) (by unfold maxLen; omega) hz4 ?_; intro w5 hown hgrow; have O5 := Lib.hid (madeT_own hz4 hown); have L5 : Hid (Later w4 w5) := Lib.hid ⟨hgrow.os, hgrow.tape, hgrow.output, hgrow.size, fun i hi => hgrow.block i hi (by simp)⟩; clear hown hgrow)
    have K5 := Lib.hid (K4.out.later L5.out)
    have hgl : w1.heap.size + 1 ≤ w4.heap.size := hz4
    have hg5 : w4.heap.size < w5.heap.size := (O5.out.lt _ rfl).2
    have O5' : Hid (Own w5 (w1.heap.size + 1) (.slice (some ⟨w4.heap.size, 0, none⟩) bn bn) (ldL bn (l.take 0))) := Lib.hid (by rw [List.take_zero, ldL_nil]; exact O5.out)
    have hw4 : w.heap.size ≤ w4.heap.size := Later.size K4.out.2
    have HAX : Hid (∀ x, a2 = some x → 0 < l.length → x.block ≠ w4.heap.size) := Lib.hid (fun x hx hn => Nat.ne_of_lt (sl_blk SX4.out hx hn))
    have HAA : Hid (∀ x, aA = some x → 0 < (ldL bn l).length → x.block ≠ w4.heap.size) := Lib.hid (fun x hx hn => Nat.ne_of_lt (sl_blk SA4.out hx hn))
    clear O5 c0 c1
    go_wp2_with fail
    go_loopw [9, 10] (fun sf i wr => ∃ k : Nat, k ≤ l.length ∧ i = .int .i64 k ∧ sf = .bool (le1 (ldL bn (l.take k))) ∧ Held [(w1.heap.size, 0, .int .i64 bn), (w1.heap.size, 1, .slice a2 l.length c2)] w wr ∧ Own wr (w1.heap.size + 1) (.slice (some ⟨w4.heap.size, 0, none⟩) bn bn) (ldL bn (l.take k)) ∧ Sl wr a2 l.length l ∧ Sl wr aA (ldL bn l).length (ldL bn l)) (fun _ i _ => l.length - (intOf i).toNat)
    case atStart => exact ⟨0, by omega, rfl, by rw [List.take_zero, ldL_nil]; simp [le1], K5.out, O5'.out, sl_later SX4.out L5.out, sl_later SA4.out L5.out⟩
    case round =>
      clear K5 O5' K4 SX4 SA4 L5
      obtain ⟨k, hk, rfl, rfl, hh, ho, hsx, hsa⟩ := hrel
      have K6 := Lib.hid hh; have O6 := Lib.hid ho; have SX6 := Lib.hid hsx; have SA6 := Lib.hid hsa
      clear hh ho hsx hsa
      obtain ⟨c0, c1, _⟩ := Held.s2 K6.out
      by_cases hlt : k < l.length
      · have hlti : (k : Int) < (l.length : Int) := by omega
        obtain ⟨p1, p2⟩ := plB_at HP.out k hlt
        have ht : hasT l k = true := (hasT_iff l k).2 ⟨by omega, hlti⟩
        have htr : thE bn l k = 0 := thE_0 hv ht
        obtain ⟨U, hU⟩ : ∃ U, U = ulP bn (gx l k) := ⟨_, rfl⟩
        have hud : udV bn l k = U := by unfold udV; rw [if_pos htr, hU, ul_eq b1 b2 p1 p2]; rfl
        have QI : Hid (∀ W, Sl W a2 l.length l → Calls Try.prog 40 #[.agg #[.int .i64 bn, .slice a2 l.length c2], .int .i64 k] W (LstC W U 0)) := Lib.hid (fun W h => by have := i_UsedBlocks bn a2 l.length c2 l k W h; rw [hud, htr] at this; exact this)
        have QS : Hid (∀ W, Sl W a2 l.length l → Calls Try.prog 41 #[.agg #[.int .i64 bn, .slice a2 l.length c2], .int .i64 k] W (LstC W U 0)) := Lib.hid (fun W h => by have := s_UsedBlocks bn a2 l.length c2 l k W h; rw [hud, htr] at this; exact this)
        obtain ⟨u1, u2, u3⟩ := ulP_in b1 b2 p1 p2
        have HK : Hid (incs (ldL bn (l.take k)) U U.length = ldL bn (l.take (k + 1))) := Lib.hid (by rw [hU]; exact ld_inc k hlt b1 b2 ⟨p1, p2⟩ _ rfl)
        have HU2 : Hid (∀ x ∈ U, 0 ≤ x ∧ x < (bn : Int)) := Lib.hid (by rw [hU]; exact u2)
        have hbd0 : ∀ m, m ≤ (ulP bn (gx l k)).length → ∀ x ∈ incs (ldL bn (l.take k)) (ulP bn (gx l k)) m, 0 ≤ x ∧ x ≤ 100 := by
          intro m hm x hx
          obtain ⟨i, hi, rfl⟩ := List.mem_iff_getElem.1 hx
          have hi' : i < bn := by rw [incs_len, ldL_len] at hi; simpa using hi
          rw [← gx_of _ _ hi, incs_gx _ _ _ hm (fun x hx => (u2 x hx).1) _ (by rw [ldL_len]; simpa using hi'), ldL_gx _ _ _ (by simpa using hi')]
          have h1 := cn_le bn (l.take k) (i : Int)
          have h2 : ((ulP bn (gx l k)).take m).count (i : Int) ≤ _ := List.count_le_length
          rw [List.length_take] at h1 h2
          omega
        rw [← hU] at hbd0
        have HBD := Lib.hid hbd0
        clear hbd0
        rw [← hU] at u1
        clear u2 u3 ht htr hud hU
        go_wp2_with fail
        refine (QI.out _ SX6.out).mono ?_
        rintro e w7 ⟨v7, rfl, ho, hl⟩
        obtain ⟨a7, c7, rfl, hs7, _⟩ := ho.sl
        have K7 := Lib.hid (K6.out.later hl)
        have O7 := Lib.hid (tf_lat O6.out hl)
        have SX7 := Lib.hid (sl_later SX6.out hl)
        have SA7 := Lib.hid (sl_later SA6.out hl)
        have S7 := Lib.hid hs7
        clear ho hl hs7 K6 O6 SX6 SA6 c0 c1
        obtain ⟨c0, c1, _⟩ := Held.s2 K7.out
        go_wp2_with fail
        refine (QS.out _ SX7.out).mono ?_
        rintro e w8 ⟨v8, rfl, ho, hl⟩
        obtain ⟨a8, c8, rfl, hs8, _⟩ := ho.sl
        have K8 := Lib.hid (K7.out.later hl)
        have O8 := Lib.hid (tf_lat O7.out hl)
        have hg8 := (O7.out.lt _ rfl).2
        have SX8 := Lib.hid (sl_later SX7.out hl)
        have SA8 := Lib.hid (sl_later SA7.out hl)
        have S7' := Lib.hid (sl_later S7.out hl)
        have OU := Lib.hid ho
        obtain ⟨bu, hbu⟩ : ∃ bu, bu = w7.heap.size := ⟨_, rfl⟩
        rw [← hbu] at OU
        have hgu : w4.heap.size < bu := by rw [hbu]; exact hg8
        clear ho hl hs8 K7 O7 SX7 SA7 c0 c1 S7 hg8 hbu
        obtain ⟨c0, c1, _⟩ := Held.s2 K8.out
        go_wp2_with fail
        refine (l_likeInts _ _ _ _ _ _ U _ S7'.out (own_slT OU.out)).mono ?_
        rintro e w9 ⟨rfl, hl⟩
        have K9 := Lib.hid (K8.out.later hl)
        have O9 := Lib.hid (tf_lat O8.out hl)
        have SX9 := Lib.hid (sl_later SX8.out hl)
        have SA9 := Lib.hid (sl_later SA8.out hl)
        have OU9 := Lib.hid (tf_lat OU.out hl)
        clear hl K8 O8 SX8 SA8 OU S7' c0 c1 QI QS
        obtain ⟨m, hm⟩ : ∃ m, m = U.length := ⟨_, rfl⟩
        have HM := Lib.hid hm
        rw [← hm] at u1 OU9 HK ⊢
        clear hm
        go_wp2_with fail
        go_loopw [9, 15] (fun sf i wr => ∃ j : Nat, j ≤ m ∧ i = .int .i64 j ∧ sf = .bool (le1 (incs (ldL bn (l.take k)) U j)) ∧ Held [(w1.heap.size, 0, .int .i64 bn), (w1.heap.size, 1, .slice a2 l.length c2)] w wr ∧ Own wr (w1.heap.size + 1) (.slice (some ⟨w4.heap.size, 0, none⟩) bn bn) (incs (ldL bn (l.take k)) U j) ∧ Own wr bu (.slice a8 m c8) U ∧ Sl wr a2 l.length l ∧ Sl wr aA (ldL bn l).length (ldL bn l)) (fun _ i _ => m - (intOf i).toNat)
        case atStart => exact ⟨0, by omega, rfl, rfl, K9.out, O9.out, OU9.out, SX9.out, SA9.out⟩
        case round =>
          clear K9 O9 OU9 SX9 SA9
          obtain ⟨j, hj, rfl, rfl, hh, ho, hu, hsx, hsa⟩ := hrel
          by_cases hjl : j < m
          · have hjli : (j : Int) < (m : Int) := by omega
            have hUl : U.length = m := HM.out.symm
            obtain ⟨x0, x1⟩ := HU2.out _ (gx_mem U j (by omega))
            obtain ⟨gu, rfl⟩ : ∃ gu, a8 = some ⟨gu, 0, none⟩ := by
              rcases hu.1.2 with ⟨e, h0⟩ | ⟨gu, _, _, e, _⟩
              · exfalso; omega
              · cases e; exact ⟨gu, rfl⟩
            obtain ⟨cu1, cu2⟩ := own_at hu hUl j hjl
            obtain ⟨xn, hxn⟩ := Int.eq_ofNat_of_zero_le x0
            have hx8 : xn < bn := by omega
            have hxni : (xn : Int) < (bn : Int) := by omega
            have hln : (incs (ldL bn (l.take k)) U j).length = bn := by rw [incs_len, ldL_len]; simp
            obtain ⟨y1, y2⟩ := own_at ho hln xn hx8
            have hbd := HBD.out j (by omega) _ (gx_mem _ xn (by rw [hln]; exact hx8))
            have hle := le1_set (incs (ldL bn (l.take k)) U j) xn (by rw [hln]; exact hx8)
            obtain ⟨z, hz⟩ : ∃ z, z = gx (incs (ldL bn (l.take k)) U j) xn := ⟨_, rfl⟩
            have hinc : incs (ldL bn (l.take k)) U (j + 1) = (incs (ldL bn (l.take k)) U j).set xn (z + 1) := by rw [incs_succ _ _ _ (by omega), hxn, Int.toNat_natCast, ← hz]
            rw [← hz] at y1 hbd hle
            rw [← hinc] at hle
            obtain ⟨z0, z1⟩ := hbd
            obtain ⟨r1, r2⟩ := own_put ho hln xn (z + 1) ⟨by omega, by omega⟩
            rw [← hinc] at r1
            have hcell : wr.cell? ⟨w1.heap.size, 0, none⟩ = some (.int .i64 bn) := (Held.s2 hh).1
            have R1 := Lib.hid r1
            have R2 := Lib.hid (hu.kept r2 (fun q e => by cases e; exact hgu))
            have R3 := Lib.hid (ht_grown hh r2 (by intro x hx; simp at hx; rcases hx with rfl | rfl <;> (intro e; have e := Option.some.inj e; (try simp only [] at e); omega)) (by intro q e; cases e; exact hw4))
            have R4 := Lib.hid (sl_rowN hsx r2 HAX.out)
            have R5 := Lib.hid (sl_rowN hsa r2 HAA.out)
            have HLE := Lib.hid hle
            rw [hxn] at cu1
            have hne : ¬ gu = w4.heap.size := by have := (hu.lt gu rfl).1; omega
            have hne' : ¬ w4.heap.size = gu := fun e => hne e.symm
            clear ho hu hh hsx hsa r1 r2 hz hinc hle
            cases hs1 : le1 (incs (ldL bn (l.take k)) U j)
            · rw [hs1] at HLE
              go_wp2_with fail
              go_roundw
              case rel => exact ⟨j + 1, by omega, by go_num, by rw [HLE.out]; rfl, R3.out, R1.out, R2.out, R4.out, R5.out⟩
              case measure => simp [intOf]; omega
            · rw [hs1] at HLE
              by_cases hz2 : z + 1 < 2
              · go_wp2_with fail
                go_roundw
                case rel => exact ⟨j + 1, by omega, by go_num, by rw [HLE.out, decide_eq_true hz2]; rfl, R3.out, R1.out, R2.out, R4.out, R5.out⟩
                case measure => simp [intOf]; omega
              · go_wp2_with fail
                go_roundw
                case rel => exact ⟨j + 1, by omega, by go_num, by rw [HLE.out, decide_eq_false hz2]; rfl, R3.out, R1.out, R2.out, R4.out, R5.out⟩
                case measure => simp [intOf]; omega
          · obtain rfl : j = m := by omega
            have R1 : Hid (Own wr (w1.heap.size + 1) (.slice (some ⟨w4.heap.size, 0, none⟩) bn bn) (ldL bn (l.take (k + 1)))) := Lib.hid (by rw [← HK.out]; exact ho)
            have R2 : Hid (le1 (incs (ldL bn (l.take k)) U j) = le1 (ldL bn (l.take (k + 1)))) := Lib.hid (by rw [← HK.out])
            have R3 := Lib.hid hh; have R4 := Lib.hid hsx; have R5 := Lib.hid hsa
            clear ho hu hh hsx hsa
            go_wp2_with fail
            go_roundw
            case rel => exact ⟨k + 1, by omega, by go_num, by rw [R2.out], R3.out, R1.out, R4.out, R5.out⟩
            case measure => simp [intOf]; omega
      · have hlti : ¬ (k : Int) < (l.length : Int) := by omega
        have hkl : l.take k = l := List.take_of_length_le (by omega)
        have O7 : Hid (Own wr (w1.heap.size + 1) (.slice (some ⟨w4.heap.size, 0, none⟩) bn bn) (ldL bn l)) := Lib.hid (by have := O6.out; rw [hkl] at this; exact this)
        have hsl : sfB bn l = le1 (ldL bn l) := by rw [sfB_sl hv, le1_ld]
        rw [hkl]
        go_wp2_with fail
        refine (l_likeInts _ _ _ _ _ _ (ldL bn l) _ (own_slT O7.out) SA6.out).mono ?_
        rintro e w7 ⟨rfl, hl⟩
        have K7 := Lib.hid (K6.out.later hl)
        have SX7 := Lib.hid (sl_later SX6.out hl)
        clear hl c0 c1
        obtain ⟨c0, c1, _⟩ := Held.s2 K7.out
        go_wp2_with fail
        refine (i_IsSafeTraffic _ _ _ _ l _ SX7.out).mono ?_
        rintro e w8 ⟨rfl, hl⟩
        rw [hsl]
        have K8 := Lib.hid (K7.out.later hl)
        clear hl
        go_wp2_with fail
        go_ret
        exact ⟨rfl, K8.out.2⟩
  · have e1 : (E != 0) = true := by simpa using hE
    have hsf := HE1.out hE
    go_wp2_with fail
    refine (i_IsSafeTraffic _ _ _ _ l _ SX4.out).mono ?_
    rintro e w5 ⟨rfl, hl⟩
    rw [hsf]
    have K5 := Lib.hid (K4.out.later hl)
    clear hl
    go_wp2_with fail
    go_ret
    exact ⟨rfl, K5.out.2⟩
end Go.Proofs.Ytdaihpkjnigjgaa
