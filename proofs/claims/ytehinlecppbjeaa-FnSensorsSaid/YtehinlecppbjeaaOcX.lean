/- Contracts of chapter 5: separate trains; sensors that are passed: the model's functions. -/
import Derived.Test.YtehinlecppbjeaaOcW
namespace Go.Proofs.Ytehinlecppbjeaa
open Go.RowKit
set_option maxHeartbeats 4000000
set_option linter.unusedVariables false
set_option linter.unusedSimpArgs false
theorem rot_int (f m k : Nat) (hm : 0 < m) : ((f : Int) + (k : Int)).tmod (m : Int) = ((rotI f m k : Nat) : Int) ∧ ((f : Int) + (k : Int)) % (m : Int) = ((rotI f m k : Nat) : Int) := by
  have e : ((f : Int) + (k : Int)) % (m : Int) = ((rotI f m k : Nat) : Int) := by unfold rotI; simp
  exact ⟨by rw [Int.tmod_eq_emod_of_nonneg (by omega)]; exact e, e⟩
set_option maxRecDepth 100000 in
theorem s_SensorsPassed (a : Option Addr) (n cap : Nat) (L : List Sg) (A : Option Addr) (m capF : Nat) (F : List Int) (p q : Int) (w : World) (hs : Sgs w a n L) (hf : Sl w A m F) :
    Calls Try.prog 43 #[.agg #[.slice a n cap], .slice A m capF, .int .i64 p, .int .i64 q] w (GivesC w (psV L F p q) (psE L F p q)) := by
  have HS := Lib.hid hs; have HL := Lib.hid hs.1
  have HF := Lib.hid hf; have HM := Lib.hid hf.1
  have hm := hf.2.1
  have HC := Lib.hid (cd_mv L p q)
  clear hs hf
  cases hv : senB L F
  · have HT : Hid (psV L F p q = [] ∧ psE L F p q = 1) := Lib.hid (by
      have : psE L F p q = 1 := by unfold psE; rw [hv]; simp
      unfold psV; rw [this]; simp)
    go_enter Try.func43, Try.ntmps43
    go_wp2_with (go_at_call 101; refine (s_l05Sensors a n cap L A m capF F _ (HS.out.later (by repeat (first | (with_reducible exact Later.refl _) | (with_reducible exact Hid.out (by assumption)) | (with_reducible refine Later.alloc ?_ _) | (with_reducible refine Later.setCell ?_ (by simp; omega) _) | (with_reducible refine Later.setCell ?_ (by simp) _) | (with_reducible refine Later.drewN ?_ _) | (with_reducible refine Later.drew ?_) | (with_reducible refine Later.trans ?_ (Hid.out (by assumption)))))) (sl_lat HF.out (by repeat (first | (with_reducible exact Later.refl _) | (with_reducible exact Hid.out (by assumption)) | (with_reducible refine Later.alloc ?_ _) | (with_reducible refine Later.setCell ?_ (by simp; omega) _) | (with_reducible refine Later.setCell ?_ (by simp) _) | (with_reducible refine Later.drewN ?_ _) | (with_reducible refine Later.drew ?_) | (with_reducible refine Later.trans ?_ (Hid.out (by assumption))))))).mono ?_; rw [hv]; rintro e w1 ⟨rfl, hb⟩; have H1 := Lib.hid hb; clear hb)
    go_ret2
    exact ⟨.slice none 0 0, by rw [HT.out.2]; rfl, by rw [HT.out.1]; exact own_none _ _, (by repeat (first | (with_reducible exact Later.refl _) | (with_reducible exact Hid.out (by assumption)) | (with_reducible refine Later.alloc ?_ _) | (with_reducible refine Later.setCell ?_ (by simp; omega) _) | (with_reducible refine Later.setCell ?_ (by simp) _) | (with_reducible refine Later.drewN ?_ _) | (with_reducible refine Later.drew ?_) | (with_reducible refine Later.trans ?_ (Hid.out (by assumption)))))⟩
  obtain ⟨hl, h32, hr⟩ := (senB_iff L F).1 hv
  rw [HM.out] at h32
  by_cases he : mvE L p q = 0
  · obtain ⟨_, hmv⟩ := mvE_ok he
    have HE := Lib.hid he
    have HO := Lib.hid ((layB_iff L).1 hl).2.2.1
    have h24 := ((layB_iff L).1 hl).2.1
    rw [HL.out] at h24
    obtain ⟨t1, t2⟩ := tot_bd hl
    rw [mvB_iff] at hmv
    obtain ⟨⟨p1, p2⟩, q1, q2⟩ := hmv
    have HR := Lib.hid hr
    have HT : Hid (psV L F p q = psK (totL L) F p q ∧ psE L F p q = 0) := Lib.hid (by
      have : psE L F p q = 0 := by unfold psE; rw [hv, he]; simp
      unfold psV; rw [this]; simp)
    have KB : Hid (∀ W', Later (w.alloc (.cells #[.slice a n cap] 26)) W' → W'.cell? ⟨w.heap.size, 0, none⟩ = some (.slice a n cap)) := Lib.hid (fun W' k => by rw [k.cell (p := ⟨w.heap.size, 0, none⟩) (by simp)]; simp)
    clear he hl hr
    go_enter Try.func43, Try.ntmps43
    go_wp2_with (first
      | (go_at_call 101; refine (s_l05Sensors a n cap L A m capF F _ (HS.out.later (by repeat (first | (with_reducible exact Later.refl _) | (with_reducible exact Hid.out (by assumption)) | (with_reducible refine Later.alloc ?_ _) | (with_reducible refine Later.setCell ?_ (by simp; omega) _) | (with_reducible refine Later.setCell ?_ (by simp) _) | (with_reducible refine Later.drewN ?_ _) | (with_reducible refine Later.drew ?_) | (with_reducible refine Later.trans ?_ (Hid.out (by assumption)))))) (sl_lat HF.out (by repeat (first | (with_reducible exact Later.refl _) | (with_reducible exact Hid.out (by assumption)) | (with_reducible refine Later.alloc ?_ _) | (with_reducible refine Later.setCell ?_ (by simp; omega) _) | (with_reducible refine Later.setCell ?_ (by simp) _) | (with_reducible refine Later.drewN ?_ _) | (with_reducible refine Later.drew ?_) | (with_reducible refine Later.trans ?_ (Hid.out (by assumption))))))).mono ?_; rw [hv]; rintro e w1 ⟨rfl, hb⟩; have H1 := Lib.hid hb; have c1 := KB.out w1 hb; have z1 : w.heap.size + 1 ≤ w1.heap.size := (by have := hb.size; rw [World.size_alloc] at this; exact this); have W1 := Lib.hid hb; clear hb)
      | (go_at_call 72; refine (s_l05Code a n cap L p q 0 1000000000000 _ (HS.out.later (by repeat (first | (with_reducible exact Later.refl _) | (with_reducible exact Hid.out (by assumption)) | (with_reducible refine Later.alloc ?_ _) | (with_reducible refine Later.setCell ?_ (by simp; omega) _) | (with_reducible refine Later.setCell ?_ (by simp) _) | (with_reducible refine Later.drewN ?_ _) | (with_reducible refine Later.drew ?_) | (with_reducible refine Later.trans ?_ (Hid.out (by assumption))))))).mono ?_; rw [HC.out, HE.out]; rintro e w2 ⟨rfl, hb⟩; have H2 := Lib.hid hb; have c2 := KB.out w2 (W1.out.trans hb); have z2 : w.heap.size + 1 ≤ w2.heap.size := Nat.le_trans z1 hb.size; have W2 := Lib.hid (W1.out.trans hb); clear hb)
      | (go_at_call 73; refine (s_Total a n cap L _ (HS.out.later (by repeat (first | (with_reducible exact Later.refl _) | (with_reducible exact Hid.out (by assumption)) | (with_reducible refine Later.alloc ?_ _) | (with_reducible refine Later.setCell ?_ (by simp; omega) _) | (with_reducible refine Later.setCell ?_ (by simp) _) | (with_reducible refine Later.drewN ?_ _) | (with_reducible refine Later.drew ?_) | (with_reducible refine Later.trans ?_ (Hid.out (by assumption)))))) HO.out h24).mono ?_; rintro e w3 ⟨rfl, hb⟩; have H3 := Lib.hid hb; have z3 : w.heap.size + 1 ≤ w3.heap.size := Nat.le_trans z2 hb.size; have W3 := Lib.hid (W2.out.trans hb); clear hb))
    have HW : Hid (Later w w3) := Lib.hid (((Later.refl _).alloc _).trans W3.out)
    clear c1 c2 W1 W2 H1 H2 H3 z1 z2
    go_loop [13] (fun i => ∃ k : Nat, k ≤ m ∧ i = .int .i64 k ∧ ∀ j, j < k → gx F j ≤ p) (fun i => m - (intOf i).toNat)
    case atStart => exact ⟨0, by omega, rfl, fun j hj => by omega⟩
    case round =>
      obtain ⟨f, hf, rfl, hok⟩ := hrel
      have HK := Lib.hid hok
      clear hok
      by_cases hgo : f < m ∧ gx F f ≤ p
      · obtain ⟨hlt, hle⟩ := hgo
        obtain ⟨b, off, rfl, hc⟩ := (sl_lat HF.out HW.out).at f hlt
        go_wp2
        go_round
        case rel =>
          refine ⟨f + 1, by omega, by go_num, fun j hj => ?_⟩
          by_cases e : j = f
          · rw [e]; exact hle
          · exact HK.out j (by omega)
        case measure => simp [intOf]; omega
      · have HCUT : Hid (IsCut F p f) := Lib.hid (isCut_of HR.out (by rw [HM.out]; exact hf) HK.out (fun h => by have h' : f < m := HM.out ▸ h; omega))
        have HALL : Hid (psK (totL L) F p q = metK (totL L) F p q f m) := Lib.hid (by rw [← HM.out, met_all HR.out ⟨p1, p2⟩ ⟨q1, q2⟩ HCUT.out])
        have hst : f = m ∨ ∃ (b off : Nat), f < m ∧ A = some ⟨b, off, none⟩ ∧ w3.cell? ⟨b, off + f, none⟩ = some (.int .i64 (gx F f)) ∧ p < gx F f := by
          by_cases c : f = m
          · exact .inl c
          · obtain ⟨b, off, e, hc⟩ := (sl_lat HF.out HW.out).at f (by omega)
            exact .inr ⟨b, off, by omega, e, hc, HCUT.out.2.2 f (Nat.le_refl _) (by rw [HM.out]; omega)⟩
        clear hgo HK
        rcases hst with hfm | ⟨b, off, hfm, hA, hc, hgt⟩
        · have hnl : ¬ (f < m) := by omega
          clear hfm
          go_wp2_with fail
          go_loopw [14, 15] (fun v i wr => ∃ k : Nat, k ≤ m ∧ i = .int .i64 k ∧ Own wr (w.heap.size + 1) v (metK (totL L) F p q f k) ∧ Later (w.alloc (.cells #[.slice a n cap] 26)) wr) (fun _ i _ => m - (intOf i).toNat)
          case atStart => exact ⟨0, by omega, rfl, by rw [metK_0]; exact own_new w3 _ z3, W3.out.alloc _⟩
          case round => 
            obtain ⟨k, hk, rfl, ho, hlw⟩ := hrel
            have O := Lib.hid ho
            have HW1 := Lib.hid hlw
            have HWr : Hid (Later w wr) := Lib.hid (((Later.refl _).alloc _).trans hlw)
            have hz : w.heap.size + 1 ≤ wr.heap.size := by have := hlw.size; rw [World.size_alloc] at this; exact this
            have hlen := metK_len (totL L) F p q f k
            clear ho hlw
            by_cases hlt : k < m
            · have hr0 := rot_int f m k (by omega)
              have hrl : rotI f m k < m := Nat.mod_lt _ (by omega)
              have HD1 : Hid (dstS (totL L) p (gx F (rotI f m k)) ≤ q → metK (totL L) F p q f (k + 1) = metK (totL L) F p q f k ++ [((rotI f m k : Nat) : Int)]) := Lib.hid (fun h => by rw [metK_succ, HM.out, if_pos h])
              have HD2 : Hid (¬ dstS (totL L) p (gx F (rotI f m k)) ≤ q → metK (totL L) F p q f (k + 1) = metK (totL L) F p q f k) := Lib.hid (fun h => by rw [metK_succ, HM.out, if_neg h])
              obtain ⟨r, hrr⟩ : ∃ r, r = rotI f m k := ⟨_, rfl⟩
              rw [← hrr] at hr0 hrl HD1 HD2
              clear hrr
              obtain ⟨hr1, hr2⟩ := hr0
              obtain ⟨b', off', hAA, hcr⟩ := (sl_lat HF.out HWr.out).at r hrl
              subst hAA
              obtain ⟨g0, g1, _⟩ := ris_at HR.out r (by rw [HM.out]; exact hrl)
              obtain ⟨m0, m1⟩ : 0 ≤ (gx F r - p) % totL L ∧ (gx F r - p) % totL L < totL L := mod_rng _ _ (by omega)
              have HDS : Hid (dstS (totL L) p (gx F r) = if (gx F r - p) % totL L = 0 then totL L else (gx F r - p) % totL L) := Lib.hid rfl
              generalize hgr : (gx F r - p) % totL L = dd at m0 m1 HDS
              have HGR := Lib.hid hgr
              clear hgr
              by_cases hz0 : dd = 0
              · by_cases hle : totL L ≤ q
                · have HD := Lib.hid (HD1.out (by rw [HDS.out, if_pos hz0]; exact hle))
                  clear HD1 HD2
                  subst hz0
                  go_wp2_with (first
                    | (go_at_call 78; refine (s_l05Mod (gx F r - p) (totL L) _ (by omega) (by omega) (by omega) (by omega)).mono ?_; rw [HGR.out]; rintro e w' ⟨rfl, rfl⟩)
                    | (at_builtin; go_must (refine app1 rfl _ _ rfl (w.heap.size + 1) _ _ _ _ _ O.out rfl rfl ⟨by omega, by omega⟩ (by omega) hz ?_; intro v' w5 ho hg; have O5 := Lib.hid ho; have W5 : Hid (Later (w.alloc (.cells #[.slice a n cap] 26)) w5) := Lib.hid (Below.grown HW1.out hg HW1.out.size (fun j e => by have := (O.out.lt j e).1; rw [World.size_alloc]; omega)); clear ho hg)))
                  go_roundw
                  case rel => exact ⟨k + 1, by omega, by go_num, by rw [HD.out]; exact O5.out, W5.out⟩
                  case measure => simp [intOf]; omega
                · have HD := Lib.hid (HD2.out (by rw [HDS.out, if_pos hz0]; exact hle))
                  clear HD1 HD2
                  subst hz0
                  go_wp2_with (go_at_call 78; refine (s_l05Mod (gx F r - p) (totL L) _ (by omega) (by omega) (by omega) (by omega)).mono ?_; rw [HGR.out]; rintro e w' ⟨rfl, rfl⟩)
                  go_roundw
                  case rel => exact ⟨k + 1, by omega, by go_num, by rw [HD.out]; exact O.out, HW1.out⟩
                  case measure => simp [intOf]; omega
              · by_cases hle : dd ≤ q
                · have HD := Lib.hid (HD1.out (by rw [HDS.out, if_neg hz0]; exact hle))
                  clear HD1 HD2
                  go_wp2_with (first
                    | (go_at_call 78; refine (s_l05Mod (gx F r - p) (totL L) _ (by omega) (by omega) (by omega) (by omega)).mono ?_; rw [HGR.out]; rintro e w' ⟨rfl, rfl⟩)
                    | (at_builtin; go_must (refine app1 rfl _ _ rfl (w.heap.size + 1) _ _ _ _ _ O.out rfl rfl ⟨by omega, by omega⟩ (by omega) hz ?_; intro v' w5 ho hg; have O5 := Lib.hid ho; have W5 : Hid (Later (w.alloc (.cells #[.slice a n cap] 26)) w5) := Lib.hid (Below.grown HW1.out hg HW1.out.size (fun j e => by have := (O.out.lt j e).1; rw [World.size_alloc]; omega)); clear ho hg)))
                  go_roundw
                  case rel => exact ⟨k + 1, by omega, by go_num, by rw [HD.out]; exact O5.out, W5.out⟩
                  case measure => simp [intOf]; omega
                · have HD := Lib.hid (HD2.out (by rw [HDS.out, if_neg hz0]; exact hle))
                  clear HD1 HD2
                  go_wp2_with (go_at_call 78; refine (s_l05Mod (gx F r - p) (totL L) _ (by omega) (by omega) (by omega) (by omega)).mono ?_; rw [HGR.out]; rintro e w' ⟨rfl, rfl⟩)
                  go_roundw
                  case rel => exact ⟨k + 1, by omega, by go_num, by rw [HD.out]; exact O.out, HW1.out⟩
                  case measure => simp [intOf]; omega
            · obtain rfl : k = m := by omega
              go_wp2
              go_ret2
              exact ⟨_, by rw [HT.out.2]; rfl, by rw [HT.out.1, HALL.out]; exact O.out.mono (Nat.le_succ _), HWr.out⟩
        · subst hA
          have hnl : ¬ (gx F f ≤ p) := by omega
          go_wp2_with fail
          clear hc
          go_loopw [14, 15] (fun v i wr => ∃ k : Nat, k ≤ m ∧ i = .int .i64 k ∧ Own wr (w.heap.size + 1) v (metK (totL L) F p q f k) ∧ Later (w.alloc (.cells #[.slice a n cap] 26)) wr) (fun _ i _ => m - (intOf i).toNat)
          case atStart => exact ⟨0, by omega, rfl, by rw [metK_0]; exact own_new w3 _ z3, W3.out.alloc _⟩
          case round => 
            obtain ⟨k, hk, rfl, ho, hlw⟩ := hrel
            have O := Lib.hid ho
            have HW1 := Lib.hid hlw
            have HWr : Hid (Later w wr) := Lib.hid (((Later.refl _).alloc _).trans hlw)
            have hz : w.heap.size + 1 ≤ wr.heap.size := by have := hlw.size; rw [World.size_alloc] at this; exact this
            have hlen := metK_len (totL L) F p q f k
            clear ho hlw
            by_cases hlt : k < m
            · have hr0 := rot_int f m k (by omega)
              have hrl : rotI f m k < m := Nat.mod_lt _ (by omega)
              have HD1 : Hid (dstS (totL L) p (gx F (rotI f m k)) ≤ q → metK (totL L) F p q f (k + 1) = metK (totL L) F p q f k ++ [((rotI f m k : Nat) : Int)]) := Lib.hid (fun h => by rw [metK_succ, HM.out, if_pos h])
              have HD2 : Hid (¬ dstS (totL L) p (gx F (rotI f m k)) ≤ q → metK (totL L) F p q f (k + 1) = metK (totL L) F p q f k) := Lib.hid (fun h => by rw [metK_succ, HM.out, if_neg h])
              obtain ⟨r, hrr⟩ : ∃ r, r = rotI f m k := ⟨_, rfl⟩
              rw [← hrr] at hr0 hrl HD1 HD2
              clear hrr
              obtain ⟨hr1, hr2⟩ := hr0
              obtain ⟨b', off', hAA, hcr⟩ := (sl_lat HF.out HWr.out).at r hrl
              (simp only [Option.some.injEq, Addr.mk.injEq, and_true] at hAA; obtain ⟨rfl, rfl⟩ := hAA)
              obtain ⟨g0, g1, _⟩ := ris_at HR.out r (by rw [HM.out]; exact hrl)
              obtain ⟨m0, m1⟩ : 0 ≤ (gx F r - p) % totL L ∧ (gx F r - p) % totL L < totL L := mod_rng _ _ (by omega)
              have HDS : Hid (dstS (totL L) p (gx F r) = if (gx F r - p) % totL L = 0 then totL L else (gx F r - p) % totL L) := Lib.hid rfl
              generalize hgr : (gx F r - p) % totL L = dd at m0 m1 HDS
              have HGR := Lib.hid hgr
              clear hgr
              by_cases hz0 : dd = 0
              · by_cases hle : totL L ≤ q
                · have HD := Lib.hid (HD1.out (by rw [HDS.out, if_pos hz0]; exact hle))
                  clear HD1 HD2
                  subst hz0
                  go_wp2_with (first
                    | (go_at_call 78; refine (s_l05Mod (gx F r - p) (totL L) _ (by omega) (by omega) (by omega) (by omega)).mono ?_; rw [HGR.out]; rintro e w' ⟨rfl, rfl⟩)
                    | (at_builtin; go_must (refine app1 rfl _ _ rfl (w.heap.size + 1) _ _ _ _ _ O.out rfl rfl ⟨by omega, by omega⟩ (by omega) hz ?_; intro v' w5 ho hg; have O5 := Lib.hid ho; have W5 : Hid (Later (w.alloc (.cells #[.slice a n cap] 26)) w5) := Lib.hid (Below.grown HW1.out hg HW1.out.size (fun j e => by have := (O.out.lt j e).1; rw [World.size_alloc]; omega)); clear ho hg)))
                  go_roundw
                  case rel => exact ⟨k + 1, by omega, by go_num, by rw [HD.out]; exact O5.out, W5.out⟩
                  case measure => simp [intOf]; omega
                · have HD := Lib.hid (HD2.out (by rw [HDS.out, if_pos hz0]; exact hle))
                  clear HD1 HD2
                  subst hz0
                  go_wp2_with (go_at_call 78; refine (s_l05Mod (gx F r - p) (totL L) _ (by omega) (by omega) (by omega) (by omega)).mono ?_; rw [HGR.out]; rintro e w' ⟨rfl, rfl⟩)
                  go_roundw
                  case rel => exact ⟨k + 1, by omega, by go_num, by rw [HD.out]; exact O.out, HW1.out⟩
                  case measure => simp [intOf]; omega
              · by_cases hle : dd ≤ q
                · have HD := Lib.hid (HD1.out (by rw [HDS.out, if_neg hz0]; exact hle))
                  clear HD1 HD2
                  go_wp2_with (first
                    | (go_at_call 78; refine (s_l05Mod (gx F r - p) (totL L) _ (by omega) (by omega) (by omega) (by omega)).mono ?_; rw [HGR.out]; rintro e w' ⟨rfl, rfl⟩)
                    | (at_builtin; go_must (refine app1 rfl _ _ rfl (w.heap.size + 1) _ _ _ _ _ O.out rfl rfl ⟨by omega, by omega⟩ (by omega) hz ?_; intro v' w5 ho hg; have O5 := Lib.hid ho; have W5 : Hid (Later (w.alloc (.cells #[.slice a n cap] 26)) w5) := Lib.hid (Below.grown HW1.out hg HW1.out.size (fun j e => by have := (O.out.lt j e).1; rw [World.size_alloc]; omega)); clear ho hg)))
                  go_roundw
                  case rel => exact ⟨k + 1, by omega, by go_num, by rw [HD.out]; exact O5.out, W5.out⟩
                  case measure => simp [intOf]; omega
                · have HD := Lib.hid (HD2.out (by rw [HDS.out, if_neg hz0]; exact hle))
                  clear HD1 HD2
                  go_wp2_with (go_at_call 78; refine (s_l05Mod (gx F r - p) (totL L) _ (by omega) (by omega) (by omega) (by omega)).mono ?_; rw [HGR.out]; rintro e w' ⟨rfl, rfl⟩)
                  go_roundw
                  case rel => exact ⟨k + 1, by omega, by go_num, by rw [HD.out]; exact O.out, HW1.out⟩
                  case measure => simp [intOf]; omega
            · obtain rfl : k = m := by omega
              go_wp2
              go_ret2
              exact ⟨_, by rw [HT.out.2]; rfl, by rw [HT.out.1, HALL.out]; exact O.out.mono (Nat.le_succ _), HWr.out⟩
  · have HT : Hid (psV L F p q = [] ∧ psE L F p q = mvE L p q) := Lib.hid (by
      have : psE L F p q = mvE L p q := by unfold psE; rw [hv]; simp
      unfold psV; rw [this]; simp [he])
    have he0 : (mvE L p q != 0) = true := by simpa using he
    clear he
    go_enter Try.func43, Try.ntmps43
    go_wp2_with (first
      | (go_at_call 101; refine (s_l05Sensors a n cap L A m capF F _ (HS.out.later (by repeat (first | (with_reducible exact Later.refl _) | (with_reducible exact Hid.out (by assumption)) | (with_reducible refine Later.alloc ?_ _) | (with_reducible refine Later.setCell ?_ (by simp; omega) _) | (with_reducible refine Later.setCell ?_ (by simp) _) | (with_reducible refine Later.drewN ?_ _) | (with_reducible refine Later.drew ?_) | (with_reducible refine Later.trans ?_ (Hid.out (by assumption)))))) (sl_lat HF.out (by repeat (first | (with_reducible exact Later.refl _) | (with_reducible exact Hid.out (by assumption)) | (with_reducible refine Later.alloc ?_ _) | (with_reducible refine Later.setCell ?_ (by simp; omega) _) | (with_reducible refine Later.setCell ?_ (by simp) _) | (with_reducible refine Later.drewN ?_ _) | (with_reducible refine Later.drew ?_) | (with_reducible refine Later.trans ?_ (Hid.out (by assumption))))))).mono ?_; rw [hv]; rintro e w1 ⟨rfl, hb⟩; obtain ⟨H1, hcc, hff, hzz⟩ := later_facts hb; clear hb; (try simp at hzz))
      | (go_at_call 72; refine (s_l05Code a n cap L p q 0 1000000000000 _ (HS.out.later (by repeat (first | (with_reducible exact Later.refl _) | (with_reducible exact Hid.out (by assumption)) | (with_reducible refine Later.alloc ?_ _) | (with_reducible refine Later.setCell ?_ (by simp; omega) _) | (with_reducible refine Later.setCell ?_ (by simp) _) | (with_reducible refine Later.drewN ?_ _) | (with_reducible refine Later.drew ?_) | (with_reducible refine Later.trans ?_ (Hid.out (by assumption))))))).mono ?_; rw [HC.out]; rintro e w2 ⟨rfl, hb⟩; have H2 := Lib.hid hb; clear hb))
    go_ret2
    exact ⟨.slice none 0 0, by rw [HT.out.2]; rfl, by rw [HT.out.1]; exact own_none _ _, (by repeat (first | (with_reducible exact Later.refl _) | (with_reducible exact Hid.out (by assumption)) | (with_reducible refine Later.alloc ?_ _) | (with_reducible refine Later.setCell ?_ (by simp; omega) _) | (with_reducible refine Later.setCell ?_ (by simp) _) | (with_reducible refine Later.drewN ?_ _) | (with_reducible refine Later.drew ?_) | (with_reducible refine Later.trans ?_ (Hid.out (by assumption)))))⟩
end Go.Proofs.Ytehinlecppbjeaa
