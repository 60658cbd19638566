/- Expression lists, of the program: how many values are there at the same time. -/
import Derived.Test.YtokipobjpinhmaaDoorPsI
namespace Go.Proofs.YtokipobjpinhmaaDoor
open Go.RowKit Go.Shelf
set_option maxHeartbeats 4000000
set_option maxRecDepth 100000
set_option linter.unusedVariables false
set_option linter.unusedSimpArgs false
theorem okR_knd (L : List Trm) (k : Nat) (h : trmB (rkx L k) (rsx L k) (rnx L k) = true) : 1 ≤ rkx L k ∧ rkx L k ≤ 12 := by
  simp [trmB, kndT] at h; omega
theorem i_heightAlong (a : Option Addr) (n cap : Nat) (L : List Trm) (w : World) (hs : Trs w a n L) (ho : Ops w) :
    Calls Tryd.prog 135 #[.slice a n cap] w fun e w' => e = .returned (.tuple #[.int .i64 (haV L : Nat), .bool (exB L)]) ∧ Later w w' := by
  have HS := Lib.hid hs
  have HL := Lib.hid hs.1
  have HO := Lib.hid ho
  have hg := ho.lt
  have hn := hs.2.1
  clear hs ho
  by_cases h40 : 40 < n
  · rw [exB_long L (by rw [HL.out]; exact h40), haV_long L (by rw [HL.out]; exact h40)]
    go_enter Tryd.func135, Tryd.ntmps135
    go_wp2_with fail
    go_ret2
    exact ⟨rfl, Later.refl _⟩
  · go_enter Tryd.func135, Tryd.ntmps135
    go_wp2_with fail
    go_loopw [4, 5, 13] (fun h m i wr => ∃ k : Nat, k ≤ n ∧ i = .int .i64 k ∧ h = .int .i64 (hAt L k : Nat) ∧ m = .int .i64 (mxH L k : Nat) ∧ Later w wr ∧ Hid (∀ j, j < k → okR L j = true)) (fun _ _ i _ => n - (intOf i).toNat)
    case atStart => exact ⟨0, by omega, rfl, rfl, rfl, Later.refl _, Lib.hid (by intro j h; omega)⟩
    case round =>
      obtain ⟨k, hk, rfl, rfl, rfl, hb, HI⟩ := hrel
      have B3 := Lib.hid hb
      have O3 := Lib.hid (HO.out.later hb)
      have hgw := O3.out.lt
      by_cases hlt : k < n
      · obtain ⟨b, off, rfl, c0, c1, c2⟩ := (HS.out.later hb).2.2.1 k hlt
        obtain ⟨r1, r2, r3⟩ := HS.out.rng k hlt
        have IT := Lib.hid (fun W hW => i_isTerm (rkx L k) (rsx L k) (rnx L k) W r1 r2 r3 hW)
        have KK := Lib.hid (okR_knd L k)
        have HOK : Hid (okR L k = (trmB (rkx L k) (rsx L k) (rnx L k) && decide (tkK (rkx L k) ≤ hAt L k))) := Lib.hid rfl
        have HH : Hid (hAt L (k + 1) = hAt L k + 1 - tkK (rkx L k)) := Lib.hid rfl
        have HM : Hid (mxH L (k + 1) = max (mxH L k) (hAt L (k + 1))) := Lib.hid rfl
        have hh := hAt_le L k
        have hm := mxH_le L k
        obtain ⟨x, hx⟩ : ∃ x, x = rkx L k := ⟨_, rfl⟩
        obtain ⟨y, hy⟩ : ∃ y, y = tx (rsx L k) := ⟨_, rfl⟩
        obtain ⟨z, hz⟩ : ∃ x, x = rnx L k := ⟨_, rfl⟩
        obtain ⟨t, ht⟩ : ∃ t, t = trmB (rkx L k) (rsx L k) (rnx L k) := ⟨_, rfl⟩
        obtain ⟨h, hhe⟩ : ∃ h, h = hAt L k := ⟨_, rfl⟩
        obtain ⟨m, hme⟩ : ∃ m, m = mxH L k := ⟨_, rfl⟩
        obtain ⟨v, hv⟩ : ∃ v, v = tkK (rkx L k) := ⟨_, rfl⟩
        rw [← ht] at IT KK HOK
        rw [← hhe] at HOK HH hh ⊢
        rw [← hme] at HM hm ⊢
        rw [← hv] at HOK HH
        have hv2 : v ≤ 2 := by rw [hv]; exact tkK_le _
        rw [← hx] at c0 IT KK hv; rw [← hy] at c1 IT; rw [← hz] at c2 IT
        clear hx hy hz ht hhe hme hb
        cases t
        · have HB : Hid (okR L k = false) := Lib.hid (by rw [HOK.out]; rfl)
          clear hv
          go_wp2_with (go_at_call 141; refine (IT.out _ (O3.out.later (by repeat (first | (with_reducible exact Later.refl _) | (with_reducible exact Hid.out (by assumption)) | (with_reducible refine Later.alloc ?_ _) | (with_reducible refine Later.setCell ?_ (by simp; omega) _) | (with_reducible refine Later.setCell ?_ (by simp) _) | (with_reducible refine Later.drewN ?_ _) | (with_reducible refine Later.drew ?_) | (with_reducible refine Later.trans ?_ (Hid.out (by assumption))))))).mono ?_; rintro e w1 ⟨rfl, hb⟩; obtain ⟨H, hcc, hff, hzz⟩ := later_facts hb; clear hb; (try simp at hzz))
          all_goals
            go_ret2
            refine ⟨?_, (by repeat (first | (with_reducible exact Later.refl _) | (with_reducible exact Hid.out (by assumption)) | (with_reducible refine Later.alloc ?_ _) | (with_reducible refine Later.setCell ?_ (by simp; omega) _) | (with_reducible refine Later.setCell ?_ (by simp) _) | (with_reducible refine Later.drewN ?_ _) | (with_reducible refine Later.drew ?_) | (with_reducible refine Later.trans ?_ (Hid.out (by assumption)))))⟩
            rw [exB_bad L k (by rw [HL.out]; exact hlt) HB.out, haV_bad L k (by rw [HL.out]; exact hlt) HB.out]
            rfl
        · obtain ⟨x1, x2⟩ := KK.out rfl
          obtain ⟨j, hj⟩ : ∃ j : Nat, x = j := ⟨x.toNat, by omega⟩
          subst hj
          have cv := (O3.out j (by omega)).2.1
          rw [opV_tk j (by omega) (by omega), ← hv] at cv
          clear hv
          by_cases hvh : v ≤ h
          · have HB : Hid (okR L k = true) := Lib.hid (by rw [HOK.out, decide_eq_true hvh]; rfl)
            obtain ⟨h', hh'⟩ : ∃ q, q = h + 1 - v := ⟨_, rfl⟩
            rw [← hh'] at HH
            have e1 : IntKind.i64.wrap (1 - (v : Int)) = 1 - (v : Int) := IntWalk.i64_in _ (by omega)
            have e2 : IntKind.i64.wrap ((h : Int) + (1 - (v : Int))) = ((h' : Nat) : Int) := by rw [show (h : Int) + (1 - (v : Int)) = ((h' : Nat) : Int) by omega]; exact IntWalk.i64_in _ (by omega)
            have hlt2 : ¬ h < v := by omega
            clear hh'
            go_wp2_with (go_at_call 141; refine (IT.out _ (O3.out.later (by repeat (first | (with_reducible exact Later.refl _) | (with_reducible exact Hid.out (by assumption)) | (with_reducible refine Later.alloc ?_ _) | (with_reducible refine Later.setCell ?_ (by simp; omega) _) | (with_reducible refine Later.setCell ?_ (by simp) _) | (with_reducible refine Later.drewN ?_ _) | (with_reducible refine Later.drew ?_) | (with_reducible refine Later.trans ?_ (Hid.out (by assumption))))))).mono ?_; rintro e w1 ⟨rfl, hb⟩; obtain ⟨H, hcc, hff, hzz⟩ := later_facts hb; clear hb; (try simp at hzz))
            all_goals
              go_roundw
              case rel =>
                refine ⟨k + 1, by omega, by go_num, by rw [HH.out], ?_, (by repeat (first | (with_reducible exact Later.refl _) | (with_reducible exact Hid.out (by assumption)) | (with_reducible refine Later.alloc ?_ _) | (with_reducible refine Later.setCell ?_ (by simp; omega) _) | (with_reducible refine Later.setCell ?_ (by simp) _) | (with_reducible refine Later.drewN ?_ _) | (with_reducible refine Later.drew ?_) | (with_reducible refine Later.trans ?_ (Hid.out (by assumption))))), Lib.hid ?_⟩
                · rw [HM.out, HH.out]
                  congr 1
                  first | omega | (split <;> omega)
                · intro q hq
                  rcases Nat.lt_or_ge q k with h1 | h1
                  · exact HI.out q h1
                  · obtain rfl : q = k := by omega
                    exact HB.out
              case measure => simp [intOf]; omega
          · have HB : Hid (okR L k = false) := Lib.hid (by rw [HOK.out, decide_eq_false hvh]; rfl)
            have hlt2 : h < v := by omega
            go_wp2_with (go_at_call 141; refine (IT.out _ (O3.out.later (by repeat (first | (with_reducible exact Later.refl _) | (with_reducible exact Hid.out (by assumption)) | (with_reducible refine Later.alloc ?_ _) | (with_reducible refine Later.setCell ?_ (by simp; omega) _) | (with_reducible refine Later.setCell ?_ (by simp) _) | (with_reducible refine Later.drewN ?_ _) | (with_reducible refine Later.drew ?_) | (with_reducible refine Later.trans ?_ (Hid.out (by assumption))))))).mono ?_; rintro e w1 ⟨rfl, hb⟩; obtain ⟨H, hcc, hff, hzz⟩ := later_facts hb; clear hb; (try simp at hzz))
            all_goals
              go_ret2
              refine ⟨?_, (by repeat (first | (with_reducible exact Later.refl _) | (with_reducible exact Hid.out (by assumption)) | (with_reducible refine Later.alloc ?_ _) | (with_reducible refine Later.setCell ?_ (by simp; omega) _) | (with_reducible refine Later.setCell ?_ (by simp) _) | (with_reducible refine Later.drewN ?_ _) | (with_reducible refine Later.drew ?_) | (with_reducible refine Later.trans ?_ (Hid.out (by assumption)))))⟩
              rw [exB_bad L k (by rw [HL.out]; exact hlt) HB.out, haV_bad L k (by rw [HL.out]; exact hlt) HB.out]
              rfl
      · obtain rfl : k = n := by omega
        have HF := Lib.hid (exB_all L (by rw [HL.out]; omega) (by rw [HL.out]; exact HI.out))
        have HV := Lib.hid (haV_all L (by rw [HL.out]; omega) (by rw [HL.out]; exact HI.out))
        clear hb
        go_wp2_with fail
        all_goals
          go_ret2
          refine ⟨?_, B3.out⟩
          rw [HF.out, HV.out, HL.out]
          have eb : (((hAt L k : Nat) : Int) == 1) = decide (hAt L k = 1) := by rw [Bool.eq_iff_iff]; simp; omega
          rw [← eb]; rfl
theorem i_IsExpression (a : Option Addr) (n cap : Nat) (L : List Trm) (w : World) (hs : Trs w a n L) (ho : Ops w) :
    Calls Tryd.prog 116 #[.slice a n cap] w fun e w' => e = .returned (.bool (exB L)) ∧ Later w w' := by
  have IH := Lib.hid (i_heightAlong a n cap L w hs ho)
  clear hs ho
  generalize exB L = b at IH ⊢
  generalize haV L = v at IH
  go_enter Tryd.func116, Tryd.ntmps116
  go_wp2_with (go_at_call 135; refine IH.out.mono ?_; rintro e w1 ⟨rfl, hb⟩; have H1 := Lib.hid hb; clear hb)
  go_ret
  exact ⟨rfl, H1.out⟩
theorem heV_ha (L : List Trm) (h : exB L = true) : haV L = heV L := by
  unfold heV; rw [if_pos h]
  obtain ⟨h1, h2, _⟩ := exB_parts L h
  exact haV_all L h1 h2
end Go.Proofs.YtokipobjpinhmaaDoor
