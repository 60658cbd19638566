/- The walk of FnReportLists (gen/gen_ilg.py). -/
import Derived.Test.YtpeebgkgccacbaaIlF
import Derived.Test.YtpeebgkgccacbaaIkU
import Derived.Test.YtpeebgkgccacbaaRow
import Derived.BigQuiet
namespace Go.Proofs.Ytpeebgkgccacbaa
open Go.RowKit
set_option maxHeartbeats 4000000
set_option maxRecDepth 100000
set_option linter.unusedVariables false
set_option linter.unusedSimpArgs false
theorem ckL_dec {p : Int → Bool} {n k : Nat} (h : k < n) : decide ((k : Int) ∈ ckL p n) = p k := by
  rw [Bool.eq_iff_iff, decide_eq_true_iff, ckL_mem]
  constructor
  · rintro ⟨j, hj, e, hp⟩
    rw [← e]; exact hp
  · intro hp
    exact ⟨k, h, rfl, hp⟩
theorem l_hasIntQ (a : Option Addr) (n cap : Nat) (l : List Int) (x : Int) (w : World) (hs : Sl w a n l) :
    Calls Try.prog 15 #[.slice a n cap, .int .i64 x] w fun e w' => e = .returned (.bool (decide (x ∈ l))) ∧ w' = w := by
  have HS := Lib.hid hs
  have HL := Lib.hid hs.1
  have hn := hs.2.1
  clear hs
  go_enter Try.func15, Try.ntmps15
  go_wp2_with fail
  go_loopw [5] (fun i wr => ∃ k : Nat, k ≤ n ∧ i = .int .i64 k ∧ (∀ j, j < k → gx l j ≠ x) ∧ wr = w) (fun i _ => n - (intOf i).toNat)
  case atStart => exact ⟨0, by omega, rfl, fun j hj => by omega, rfl⟩
  case round =>
    obtain ⟨k, hk, rfl, hne, rfl⟩ := hrel
    have HN := Lib.hid hne
    clear hne
    by_cases hlt : k < n
    · obtain ⟨b, off, rfl, hc⟩ := HS.out.at k hlt
      cases hx : (gx l k == x)
      · go_wp2_with fail
        go_roundw
        case rel =>
          refine ⟨k + 1, by omega, by go_num, fun j hj => ?_, by first | rfl | trivial⟩
          by_cases e : j = k
          · rw [e]; simpa using hx
          · exact HN.out j (by omega)
        case measure => simp [intOf]; omega
      · have HM : Hid (x ∈ l) := Lib.hid (by have := gx_mem l k (by rw [HL.out]; exact hlt); rw [← show gx l k = x by simpa using hx]; exact this)
        go_wp2_with fail
        go_ret
        exact ⟨ret_b (by rw [decide_eq_true HM.out]), rfl⟩
    · obtain rfl : k = n := by omega
      have HM : Hid (¬ x ∈ l) := Lib.hid (fun hx => by
        obtain ⟨j, hj, e⟩ := List.mem_iff_getElem.1 hx
        exact HN.out j (by rw [← HL.out]; exact hj) (by rw [gx_of l j hj]; exact e))
      go_wp2_with fail
      go_ret
      exact ⟨ret_b (by rw [decide_eq_false HM.out]), rfl⟩
set_option maxHeartbeats 40000000 in
set_option maxRecDepth 100000 in
theorem walk_FnReportLists (a0 : Option Addr) (len0 cap0 : Nat) (z0 : List Int) (w : World) (w0 : IsRow .u8 w a0 len0 cap0 z0) :
    Calls Try.prog 3 #[.slice a0 len0 cap0] w fun e w' => e = .returned (.bool true) ∧ Below w.heap.size w w' := by
  have HS := Lib.hid (isRow_bytes w0)
  clear w0
  by_cases hbig : 4096 < len0
  · go_enter Try.func3, Try.ntmps3
    go_wp2_with fail
    refine (l_big _ _ _ _).mono ?_
    rintro e w' ⟨rfl, rfl⟩
    go_wp2
    go_ret
    exact ⟨rfl, Below.refl _ _⟩
  go_enter Try.func3, Try.ntmps3
  go_wp2_with fail
  refine (l_big _ _ _ _).mono ?_
  rintro e w' ⟨rfl, rfl⟩
  go_wp2_with fail
  clear hbig
  refine (s_DrawClearBlocks _ _ _ _ HS.out).mono ?_
  rintro e w1 ⟨Bt, v1, v2, l1, l2, rfl, hb, ho1, ho2, hl⟩
  obtain ⟨a1, c1, rfl, hs1, _⟩ := ho1.sl
  obtain ⟨a2, c2, rfl, hs2, _⟩ := ho2.sl
  obtain ⟨n1, hn1⟩ : ∃ n, l1.length = n := ⟨_, rfl⟩
  obtain ⟨n2, hn2⟩ : ∃ n, l2.length = n := ⟨_, rfl⟩
  rw [hn1] at hs1 ⊢
  rw [hn2] at hs2 ⊢
  have K1 := Lib.hid (ht_box2 ((held_none w).later hl) (.slice a1 n1 c1) (.slice a2 n2 c2) 26)
  have SX1 := Lib.hid (sl_later hs1 ((Later.refl w1).alloc (.cells #[.slice a1 n1 c1, .slice a2 n2 c2] 26)))
  have SY1 := Lib.hid (sl_later hs2 ((Later.refl w1).alloc (.cells #[.slice a1 n1 c1, .slice a2 n2 c2] 26)))
  clear ho1 ho2 hl hs1 hs2 hn1 hn2 hb
  obtain ⟨E, VC, VD, hE0, IC, MC, ID, MD⟩ : ∃ (E : Int) (VC VD : List Int), (E = 0 → rpE Bt n1 n2 l1 l2 = 0 ∧ VC = ckL (clP l1 l2) Bt.toNat ∧ VD = ckL (dsP l1 l2) Bt.toNat) ∧ Hid (∀ W, Sl W a1 n1 l1 → Sl W a2 n2 l2 → Calls Try.prog 7 #[.int .i64 Bt, .agg #[.slice a1 n1 c1, .slice a2 n2 c2]] W (LstC W VC E)) ∧ Hid (∀ W, Sl W a1 n1 l1 → Sl W a2 n2 l2 → Calls Try.prog 8 #[.int .i64 Bt, .agg #[.slice a1 n1 c1, .slice a2 n2 c2]] W (LstC W VC E)) ∧ Hid (∀ W, Sl W a1 n1 l1 → Sl W a2 n2 l2 → Calls Try.prog 9 #[.int .i64 Bt, .agg #[.slice a1 n1 c1, .slice a2 n2 c2]] W (LstC W VD E)) ∧ Hid (∀ W, Sl W a1 n1 l1 → Sl W a2 n2 l2 → Calls Try.prog 10 #[.int .i64 Bt, .agg #[.slice a1 n1 c1, .slice a2 n2 c2]] W (LstC W VD E)) :=
    ⟨rpE Bt n1 n2 l1 l2, byV clP Bt n1 n2 l1 l2, byV dsP Bt n1 n2 l1 l2, fun h => ⟨h, by unfold byV; rw [if_pos h], by unfold byV; rw [if_pos h]⟩, Lib.hid (fun W h k => i_ClearBlocks Bt a1 n1 c1 l1 a2 n2 c2 l2 W h k), Lib.hid (fun W h k => s_ClearBlocks Bt a1 n1 c1 l1 a2 n2 c2 l2 W h k), Lib.hid (fun W h k => i_Discrepancies Bt a1 n1 c1 l1 a2 n2 c2 l2 W h k), Lib.hid (fun W h k => s_Discrepancies Bt a1 n1 c1 l1 a2 n2 c2 l2 W h k)⟩
  have HE := Lib.hid hE0
  clear hE0
  obtain ⟨q0, q1, _⟩ := Held.s2 K1.out
  go_wp2_with fail
  clear q0 q1
  refine (IC.out _ SX1.out SY1.out).mono ?_
  rintro e w2 ⟨vA, rfl, ho, hl⟩
  obtain ⟨aA, cA, rfl, hsn, _⟩ := ho.sl
  obtain ⟨nA, hnA⟩ : ∃ n, (VC).length = n := ⟨_, rfl⟩
  rw [hnA] at hsn ⊢
  clear hnA
  have K2 := Lib.hid (K1.out.later hl)
  have SX2 := Lib.hid (sl_later SX1.out hl)
  have SY2 := Lib.hid (sl_later SY1.out hl)
  have SA2 := Lib.hid hsn
  clear ho hl hsn K1 SX1 SY1
  obtain ⟨q0, q1, _⟩ := Held.s2 K2.out
  go_wp2_with fail
  clear q0 q1
  refine (MC.out _ SX2.out SY2.out).mono ?_
  rintro e w3 ⟨vB, rfl, ho, hl⟩
  obtain ⟨aB, cB, rfl, hsn, _⟩ := ho.sl
  obtain ⟨nB, hnB⟩ : ∃ n, (VC).length = n := ⟨_, rfl⟩
  rw [hnB] at hsn ⊢
  clear hnB
  have K3 := Lib.hid (K2.out.later hl)
  have SX3 := Lib.hid (sl_later SX2.out hl)
  have SY3 := Lib.hid (sl_later SY2.out hl)
  have SA3 := Lib.hid (sl_later SA2.out hl)
  have SB3 := Lib.hid hsn
  clear ho hl hsn K2 SX2 SY2 SA2
  obtain ⟨q0, q1, _⟩ := Held.s2 K3.out
  go_wp2_with fail
  clear q0 q1
  refine (ID.out _ SX3.out SY3.out).mono ?_
  rintro e w4 ⟨vC, rfl, ho, hl⟩
  obtain ⟨aC, cC, rfl, hsn, _⟩ := ho.sl
  obtain ⟨nC, hnC⟩ : ∃ n, (VD).length = n := ⟨_, rfl⟩
  rw [hnC] at hsn ⊢
  clear hnC
  have K4 := Lib.hid (K3.out.later hl)
  have SX4 := Lib.hid (sl_later SX3.out hl)
  have SY4 := Lib.hid (sl_later SY3.out hl)
  have SA4 := Lib.hid (sl_later SA3.out hl)
  have SB4 := Lib.hid (sl_later SB3.out hl)
  have SC4 := Lib.hid hsn
  clear ho hl hsn K3 SX3 SY3 SA3 SB3
  obtain ⟨q0, q1, _⟩ := Held.s2 K4.out
  go_wp2_with fail
  clear q0 q1
  refine (MD.out _ SX4.out SY4.out).mono ?_
  rintro e w5 ⟨vD, rfl, ho, hl⟩
  obtain ⟨aD, cD, rfl, hsn, _⟩ := ho.sl
  obtain ⟨nD, hnD⟩ : ∃ n, (VD).length = n := ⟨_, rfl⟩
  rw [hnD] at hsn ⊢
  clear hnD
  have K5 := Lib.hid (K4.out.later hl)
  have SX5 := Lib.hid (sl_later SX4.out hl)
  have SY5 := Lib.hid (sl_later SY4.out hl)
  have SA5 := Lib.hid (sl_later SA4.out hl)
  have SB5 := Lib.hid (sl_later SB4.out hl)
  have SC5 := Lib.hid (sl_later SC4.out hl)
  have SD5 := Lib.hid hsn
  clear ho hl hsn K4 SX4 SY4 SA4 SB4 SC4
  clear IC MC ID MD
  obtain ⟨q0, q1, _⟩ := Held.s2 K5.out
  go_wp2_with fail
  clear q0 q1
  refine (s_DrawPermittedMoves _ _ _ _ (HS.out.later K5.out.2)).mono ?_
  rintro e w6 ⟨Bv, vx, vp, vq, lx, lp, lq, rfl, hbv, hox, hop, hoq, hl⟩
  obtain ⟨ax, cx, rfl, hsx, _⟩ := hox.sl
  obtain ⟨ap, cp, rfl, hsp, _⟩ := hop.sl
  obtain ⟨aq, cq, rfl, hsq, _⟩ := hoq.sl
  obtain ⟨nx, hnx⟩ : ∃ n, lx.length = n := ⟨_, rfl⟩
  obtain ⟨np, hnp⟩ : ∃ n, lp.length = n := ⟨_, rfl⟩
  obtain ⟨nq, hnq⟩ : ∃ n, lq.length = n := ⟨_, rfl⟩
  rw [hnx] at hsx ⊢
  rw [hnp] at hsp ⊢
  rw [hnq] at hsq ⊢
  clear hox hop hoq hnx hnp hnq hbv
  have K6 := Lib.hid (ht_box2 (ht_box2 (K5.out.later hl) (.int .i64 Bv) (.slice ax nx cx) 32) (.slice ap np cp) (.slice aq nq cq) 26)
  simp only [World.size_alloc] at K6
  have SX6 := Lib.hid (sl_later (sl_later SX5.out hl) (((Later.refl w6).alloc (.cells #[.int .i64 Bv, .slice ax nx cx] 32)).alloc (.cells #[.slice ap np cp, .slice aq nq cq] 26)))
  have SY6 := Lib.hid (sl_later (sl_later SY5.out hl) (((Later.refl w6).alloc (.cells #[.int .i64 Bv, .slice ax nx cx] 32)).alloc (.cells #[.slice ap np cp, .slice aq nq cq] 26)))
  have SA6 := Lib.hid (sl_later (sl_later SA5.out hl) (((Later.refl w6).alloc (.cells #[.int .i64 Bv, .slice ax nx cx] 32)).alloc (.cells #[.slice ap np cp, .slice aq nq cq] 26)))
  have SB6 := Lib.hid (sl_later (sl_later SB5.out hl) (((Later.refl w6).alloc (.cells #[.int .i64 Bv, .slice ax nx cx] 32)).alloc (.cells #[.slice ap np cp, .slice aq nq cq] 26)))
  have SC6 := Lib.hid (sl_later (sl_later SC5.out hl) (((Later.refl w6).alloc (.cells #[.int .i64 Bv, .slice ax nx cx] 32)).alloc (.cells #[.slice ap np cp, .slice aq nq cq] 26)))
  have SD6 := Lib.hid (sl_later (sl_later SD5.out hl) (((Later.refl w6).alloc (.cells #[.int .i64 Bv, .slice ax nx cx] 32)).alloc (.cells #[.slice ap np cp, .slice aq nq cq] 26)))
  have PX6 := Lib.hid (sl_later hsx (((Later.refl w6).alloc (.cells #[.int .i64 Bv, .slice ax nx cx] 32)).alloc (.cells #[.slice ap np cp, .slice aq nq cq] 26)))
  have PP6 := Lib.hid (sl_later hsp (((Later.refl w6).alloc (.cells #[.int .i64 Bv, .slice ax nx cx] 32)).alloc (.cells #[.slice ap np cp, .slice aq nq cq] 26)))
  have PQ6 := Lib.hid (sl_later hsq (((Later.refl w6).alloc (.cells #[.int .i64 Bv, .slice ax nx cx] 32)).alloc (.cells #[.slice ap np cp, .slice aq nq cq] 26)))
  clear hl hsx hsp hsq K5 SX5 SY5 SA5 SB5 SC5 SD5
  obtain ⟨EP, VP, IP, MP⟩ : ∃ (EP : Int) (VP : List Int), Hid (∀ W, Sl W ax nx lx → Sl W ap np lp → Sl W aq nq lq → Calls Try.prog 12 #[.agg #[.int .i64 Bv, .slice ax nx cx], .agg #[.slice ap np cp, .slice aq nq cq]] W (LstC W VP EP)) ∧ Hid (∀ W, Sl W ax nx lx → Sl W ap np lp → Sl W aq nq lq → Calls Try.prog 13 #[.agg #[.int .i64 Bv, .slice ax nx cx], .agg #[.slice ap np cp, .slice aq nq cq]] W (LstC W VP EP)) :=
    ⟨pmE Bv lx np nq lp lq, pmV Bv lx np nq lp lq, Lib.hid (fun W h k m => i_PermittedMoves Bv ax nx cx lx ap np cp lp aq nq cq lq W h k m), Lib.hid (fun W h k m => s_PermittedMoves Bv ax nx cx lx ap np cp lp aq nq cq lq W h k m)⟩
  obtain ⟨q0, q1, q2, q3, q4, q5, _⟩ := Held.s6 K6.out
  go_wp2_with fail
  clear q0 q1 q2 q3 q4 q5
  refine (IP.out _ PX6.out PP6.out PQ6.out).mono ?_
  rintro e w7 ⟨vI, rfl, ho, hl⟩
  obtain ⟨aI, cI, rfl, hsn, _⟩ := ho.sl
  obtain ⟨nI, hnI⟩ : ∃ n, (VP).length = n := ⟨_, rfl⟩
  rw [hnI] at hsn ⊢
  clear hnI
  have K7 := Lib.hid (K6.out.later hl)
  have SX7 := Lib.hid (sl_later SX6.out hl)
  have SY7 := Lib.hid (sl_later SY6.out hl)
  have SA7 := Lib.hid (sl_later SA6.out hl)
  have SB7 := Lib.hid (sl_later SB6.out hl)
  have SC7 := Lib.hid (sl_later SC6.out hl)
  have SD7 := Lib.hid (sl_later SD6.out hl)
  have PX7 := Lib.hid (sl_later PX6.out hl)
  have PP7 := Lib.hid (sl_later PP6.out hl)
  have PQ7 := Lib.hid (sl_later PQ6.out hl)
  have SI7 := Lib.hid hsn
  clear ho hl hsn K6 SX6 SY6 SA6 SB6 SC6 SD6 PX6 PP6 PQ6
  obtain ⟨q0, q1, q2, q3, q4, q5, _⟩ := Held.s6 K7.out
  go_wp2_with fail
  clear q0 q1 q2 q3 q4 q5
  refine (MP.out _ PX7.out PP7.out PQ7.out).mono ?_
  rintro e w8 ⟨vJ, rfl, ho, hl⟩
  obtain ⟨aJ, cJ, rfl, hsn, _⟩ := ho.sl
  obtain ⟨nJ, hnJ⟩ : ∃ n, (VP).length = n := ⟨_, rfl⟩
  rw [hnJ] at hsn ⊢
  clear hnJ
  have K8 := Lib.hid (K7.out.later hl)
  have SX8 := Lib.hid (sl_later SX7.out hl)
  have SY8 := Lib.hid (sl_later SY7.out hl)
  have SA8 := Lib.hid (sl_later SA7.out hl)
  have SB8 := Lib.hid (sl_later SB7.out hl)
  have SC8 := Lib.hid (sl_later SC7.out hl)
  have SD8 := Lib.hid (sl_later SD7.out hl)
  have PX8 := Lib.hid (sl_later PX7.out hl)
  have PP8 := Lib.hid (sl_later PP7.out hl)
  have PQ8 := Lib.hid (sl_later PQ7.out hl)
  have SI8 := Lib.hid (sl_later SI7.out hl)
  have SJ8 := Lib.hid hsn
  clear ho hl hsn K7 SX7 SY7 SA7 SB7 SC7 SD7 PX7 PP7 PQ7 SI7
  clear IP MP
  have e0 : (E != E) = false := by simp
  have e1 : (EP != EP) = false := by simp
  obtain ⟨q0, q1, q2, q3, q4, q5, _⟩ := Held.s6 K8.out
  go_wp2_with fail
  clear q0 q1 q2 q3 q4 q5
  refine (l_likeInts _ _ _ _ _ _ VC _ SA8.out SB8.out).mono ?_
  rintro e w9 ⟨rfl, hl⟩
  have K9 := Lib.hid (K8.out.later hl)
  have SX9 := Lib.hid (sl_later SX8.out hl)
  have SY9 := Lib.hid (sl_later SY8.out hl)
  have SA9 := Lib.hid (sl_later SA8.out hl)
  have SB9 := Lib.hid (sl_later SB8.out hl)
  have SC9 := Lib.hid (sl_later SC8.out hl)
  have SD9 := Lib.hid (sl_later SD8.out hl)
  have PX9 := Lib.hid (sl_later PX8.out hl)
  have PP9 := Lib.hid (sl_later PP8.out hl)
  have PQ9 := Lib.hid (sl_later PQ8.out hl)
  have SI9 := Lib.hid (sl_later SI8.out hl)
  have SJ9 := Lib.hid (sl_later SJ8.out hl)
  clear hl K8 SX8 SY8 SA8 SB8 SC8 SD8 PX8 PP8 PQ8 SI8 SJ8
  go_wp2_with fail
  refine (l_likeInts _ _ _ _ _ _ VD _ SC9.out SD9.out).mono ?_
  rintro e w10 ⟨rfl, hl⟩
  have K10 := Lib.hid (K9.out.later hl)
  have SX10 := Lib.hid (sl_later SX9.out hl)
  have SY10 := Lib.hid (sl_later SY9.out hl)
  have SA10 := Lib.hid (sl_later SA9.out hl)
  have SB10 := Lib.hid (sl_later SB9.out hl)
  have SC10 := Lib.hid (sl_later SC9.out hl)
  have SD10 := Lib.hid (sl_later SD9.out hl)
  have PX10 := Lib.hid (sl_later PX9.out hl)
  have PP10 := Lib.hid (sl_later PP9.out hl)
  have PQ10 := Lib.hid (sl_later PQ9.out hl)
  have SI10 := Lib.hid (sl_later SI9.out hl)
  have SJ10 := Lib.hid (sl_later SJ9.out hl)
  clear hl K9 SX9 SY9 SA9 SB9 SC9 SD9 PX9 PP9 PQ9 SI9 SJ9
  go_wp2_with fail
  refine (l_likeInts _ _ _ _ _ _ VP _ SI10.out SJ10.out).mono ?_
  rintro e w11 ⟨rfl, hl⟩
  have K11 := Lib.hid (K10.out.later hl)
  have SX11 := Lib.hid (sl_later SX10.out hl)
  have SY11 := Lib.hid (sl_later SY10.out hl)
  have SA11 := Lib.hid (sl_later SA10.out hl)
  have SB11 := Lib.hid (sl_later SB10.out hl)
  have SC11 := Lib.hid (sl_later SC10.out hl)
  have SD11 := Lib.hid (sl_later SD10.out hl)
  have PX11 := Lib.hid (sl_later PX10.out hl)
  have PP11 := Lib.hid (sl_later PP10.out hl)
  have PQ11 := Lib.hid (sl_later PQ10.out hl)
  have SI11 := Lib.hid (sl_later SI10.out hl)
  have SJ11 := Lib.hid (sl_later SJ10.out hl)
  clear hl K10 SX10 SY10 SA10 SB10 SC10 SD10 PX10 PP10 PQ10 SI10 SJ10
  clear SA11 SC11 SI11 SJ11 PX11 PP11 PQ11
  by_cases hE : E = 0
  · obtain ⟨hr, rfl, rfl⟩ := HE.out hE
    subst hE
    obtain ⟨b2, b8, e1', e2', r1, r2⟩ := rpE_ok hr
    obtain ⟨bn, rfl⟩ := Int.eq_ofNat_of_zero_le (show 0 ≤ Bt by omega)
    obtain rfl : n1 = bn := by omega
    obtain rfl : n2 = n1 := by omega
    have R1 := Lib.hid r1; have R2 := Lib.hid r2
    have hb8 : n2 ≤ 8 := by omega
    have hT : ((n2 : Int)).toNat = n2 := by omega
    rw [hT] at SB11 SD11
    clear HE hr r1 r2 e1' e2' b2 b8 hT e0
    go_wp2_with fail
    go_loopw [19] (fun i wr => ∃ k : Nat, k ≤ n2 ∧ i = .int .i64 k ∧ Later w11 wr) (fun i _ => n2 - (intOf i).toNat)
    case atStart => exact ⟨0, by omega, rfl, Later.refl _⟩
    case round =>
      obtain ⟨k, hk, rfl, hg⟩ := hrel
      have HG := Lib.hid hg
      clear hg
      by_cases hlt : k < n2
      · have hlti : (k : Int) < (n2 : Int) := by omega
        have k0 : (0 : Int) ≤ (k : Int) := by omega
        obtain ⟨o1, f1, rfl, r1⟩ := SX11.out.at k hlt
        obtain ⟨o2, f2, rfl, r2⟩ := SY11.out.at k hlt
        have QB : Hid (∀ W, Later w11 W → Calls Try.prog 15 #[.slice aB nB cB, .int .i64 k] W fun e w' => e = .returned (.bool (clP l1 l2 k)) ∧ w' = W) := Lib.hid (fun W h => by have := l_hasIntQ aB nB cB _ k W (sl_later SB11.out h); rw [ckL_dec hlt] at this; exact this)
        have QD : Hid (∀ W, Later w11 W → Calls Try.prog 15 #[.slice aD nD cD, .int .i64 k] W fun e w' => e = .returned (.bool (dsP l1 l2 k)) ∧ w' = W) := Lib.hid (fun W h => by have := l_hasIntQ aD nD cD _ k W (sl_later SD11.out h); rw [ckL_dec hlt] at this; exact this)
        have hC : clP l1 l2 (k : Int) = (gx l1 k == 0 && gx l2 k == 0) := by unfold clP; rw [Int.toNat_natCast]
        have hD : dsP l1 l2 (k : Int) = (gx l1 k != gx l2 k) := by unfold dsP; rw [Int.toNat_natCast]
        rw [hC] at QB
        rw [hD] at QD
        have v1 := rp_at R1.out hlt
        have v2 := rp_at R2.out hlt
        obtain ⟨x1, hx1⟩ : ∃ x, x = gx l1 k := ⟨_, rfl⟩
        obtain ⟨x2, hx2⟩ : ∃ x, x = gx l2 k := ⟨_, rfl⟩
        rw [← hx1] at QB QD r1 v1
        rw [← hx2] at QB QD r2 v2
        clear hC hD hx1 hx2
        have KS : Hid (∀ W', Later w11 W' → W'.cell? ⟨w1.heap.size, 0, none⟩ = some (.slice (some ⟨o1, f1, none⟩) n2 c1) ∧ W'.cell? ⟨w1.heap.size, 1, none⟩ = some (.slice (some ⟨o2, f2, none⟩) n2 c2) ∧ W'.cell? ⟨o1, f1 + k, none⟩ = some (.int .i64 x1) ∧ W'.cell? ⟨o2, f2 + k, none⟩ = some (.int .i64 x2)) := Lib.hid (fun W' h => by obtain ⟨_, _, _, _, d0, d1, _⟩ := Held.s6 (K11.out.later h); exact ⟨d0, d1, by rw [h.cell (p := ⟨o1, f1 + k, none⟩) (cell_lt r1)]; exact r1, by rw [h.cell (p := ⟨o2, f2 + k, none⟩) (cell_lt r2)]; exact r2⟩)
        clear r1 r2
        obtain ⟨d0, d1, d2, d3⟩ := KS.out wr HG.out
        rcases v1 with v1 | v1
        · subst v1; rcases v2 with rfl | rfl
          ·
            have QB' : Hid (∀ W, Later w11 W → Calls Try.prog 15 #[.slice aB nB cB, .int .i64 k] W fun e w' => e = .returned (.bool true) ∧ w' = W) := QB
            have QD' : Hid (∀ W, Later w11 W → Calls Try.prog 15 #[.slice aD nD cD, .int .i64 k] W fun e w' => e = .returned (.bool false) ∧ w' = W) := QD
            clear QB QD
            go_wp2_with fail
            go_quiet ((first
              | (go_at_call_of 15 aB; exact Calls.quiet_of_same (QB'.out _ (show Later w11 _ from HG.out.trans ((Later.refl wr).drewN _))))
              | (go_at_call_of 15 aD; exact Calls.quiet_of_same (QD'.out _ (show Later w11 _ from HG.out.trans ((Later.refl wr).drewN _))))))
            all_goals
              go_wp2_with fail
              go_roundw
              case rel => exact ⟨k + 1, by omega, by go_num, HG.out.trans (by repeat (first | (with_reducible exact Later.refl _) | (with_reducible exact Hid.out (by assumption)) | (with_reducible refine Later.alloc ?_ _) | (with_reducible refine Later.setCell ?_ (by simp; omega) _) | (with_reducible refine Later.setCell ?_ (by simp) _) | (with_reducible refine Later.drewN ?_ _) | (with_reducible refine Later.drew ?_) | (with_reducible refine Later.trans ?_ (Hid.out (by assumption)))))⟩
              case measure => simp [intOf]; omega
          ·
            have QB' : Hid (∀ W, Later w11 W → Calls Try.prog 15 #[.slice aB nB cB, .int .i64 k] W fun e w' => e = .returned (.bool false) ∧ w' = W) := QB
            have QD' : Hid (∀ W, Later w11 W → Calls Try.prog 15 #[.slice aD nD cD, .int .i64 k] W fun e w' => e = .returned (.bool true) ∧ w' = W) := QD
            clear QB QD
            go_wp2_with fail
            go_quiet ((first
              | (go_at_call_of 15 aB; exact Calls.quiet_of_same (QB'.out _ (show Later w11 _ from HG.out.trans ((Later.refl wr).drewN _))))
              | (go_at_call_of 15 aD; exact Calls.quiet_of_same (QD'.out _ (show Later w11 _ from HG.out.trans ((Later.refl wr).drewN _))))))
            all_goals
              go_wp2_with fail
              go_roundw
              case rel => exact ⟨k + 1, by omega, by go_num, HG.out.trans (by repeat (first | (with_reducible exact Later.refl _) | (with_reducible exact Hid.out (by assumption)) | (with_reducible refine Later.alloc ?_ _) | (with_reducible refine Later.setCell ?_ (by simp; omega) _) | (with_reducible refine Later.setCell ?_ (by simp) _) | (with_reducible refine Later.drewN ?_ _) | (with_reducible refine Later.drew ?_) | (with_reducible refine Later.trans ?_ (Hid.out (by assumption)))))⟩
              case measure => simp [intOf]; omega
        · have g0 : x1 ≠ 0 := by omega
          have g1 : (x1 == 0) = false := by simpa using g0
          have g2 : (x1 != 0) = true := by simpa using g0
          have g3 : decide (x1 = 0) = false := by simpa using g0
          rcases v2 with v2 | v2
          · subst v2
            clear g0 v1
            have QB' : Hid (∀ W, Later w11 W → Calls Try.prog 15 #[.slice aB nB cB, .int .i64 k] W fun e w' => e = .returned (.bool false) ∧ w' = W) := Lib.hid (fun W h => by have := QB.out W h; exact (by rw [g1, Bool.false_and] at this; exact this))
            have QD' : Hid (∀ W, Later w11 W → Calls Try.prog 15 #[.slice aD nD cD, .int .i64 k] W fun e w' => e = .returned (.bool true) ∧ w' = W) := Lib.hid (fun W h => by have := QD.out W h; exact (by rw [g2] at this; exact this))
            clear QB QD
            go_wp2_with fail
            go_quiet ((first
              | (go_at_call_of 15 aB; exact Calls.quiet_of_same (QB'.out _ (show Later w11 _ from HG.out.trans ((Later.refl wr).drewN _))))
              | (go_at_call_of 15 aD; exact Calls.quiet_of_same (QD'.out _ (show Later w11 _ from HG.out.trans ((Later.refl wr).drewN _))))))
            all_goals
              go_wp2_with fail
              go_roundw
              case rel => exact ⟨k + 1, by omega, by go_num, HG.out.trans (by repeat (first | (with_reducible exact Later.refl _) | (with_reducible exact Hid.out (by assumption)) | (with_reducible refine Later.alloc ?_ _) | (with_reducible refine Later.setCell ?_ (by simp; omega) _) | (with_reducible refine Later.setCell ?_ (by simp) _) | (with_reducible refine Later.drewN ?_ _) | (with_reducible refine Later.drew ?_) | (with_reducible refine Later.trans ?_ (Hid.out (by assumption)))))⟩
              case measure => simp [intOf]; omega
          · obtain rfl : x2 = x1 := by omega
            clear g0 g2 v1 v2
            have QB' : Hid (∀ W, Later w11 W → Calls Try.prog 15 #[.slice aB nB cB, .int .i64 k] W fun e w' => e = .returned (.bool false) ∧ w' = W) := Lib.hid (fun W h => by have := QB.out W h; exact (by rw [g1, Bool.false_and] at this; exact this))
            have QD' : Hid (∀ W, Later w11 W → Calls Try.prog 15 #[.slice aD nD cD, .int .i64 k] W fun e w' => e = .returned (.bool false) ∧ w' = W) := Lib.hid (fun W h => by have := QD.out W h; exact (by rw [bne_self_eq_false] at this; exact this))
            clear QB QD
            go_wp2_with fail
            go_quiet ((first
              | (go_at_call_of 15 aB; exact Calls.quiet_of_same (QB'.out _ (show Later w11 _ from HG.out.trans ((Later.refl wr).drewN _))))
              | (go_at_call_of 15 aD; exact Calls.quiet_of_same (QD'.out _ (show Later w11 _ from HG.out.trans ((Later.refl wr).drewN _))))))
            all_goals
              go_wp2_with fail
              go_roundw
              case rel => exact ⟨k + 1, by omega, by go_num, HG.out.trans (by repeat (first | (with_reducible exact Later.refl _) | (with_reducible exact Hid.out (by assumption)) | (with_reducible refine Later.alloc ?_ _) | (with_reducible refine Later.setCell ?_ (by simp; omega) _) | (with_reducible refine Later.setCell ?_ (by simp) _) | (with_reducible refine Later.drewN ?_ _) | (with_reducible refine Later.drew ?_) | (with_reducible refine Later.trans ?_ (Hid.out (by assumption)))))⟩
              case measure => simp [intOf]; omega
      · obtain rfl : k = n2 := by omega
        go_wp2_with fail
        go_ret
        exact ⟨rfl, K11.out.2.trans HG.out⟩
  · have e3 : (E != 0) = true := by simpa using hE
    go_wp2_with fail
    go_ret
    exact ⟨rfl, K11.out.2⟩
end Go.Proofs.Ytpeebgkgccacbaa
