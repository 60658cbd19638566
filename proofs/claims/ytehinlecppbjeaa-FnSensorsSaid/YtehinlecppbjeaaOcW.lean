/- Contracts of chapter 5: separate trains; sensors that are covered or passed: the model's functions. -/
import Derived.Test.YtehinlecppbjeaaOcV
import Derived.Test.YtehinlecppbjeaaOcS
import Derived.Test.YtehinlecppbjeaaOcJ
namespace Go.Proofs.Ytehinlecppbjeaa
open Go.RowKit
set_option maxHeartbeats 4000000
set_option linter.unusedVariables false
set_option linter.unusedSimpArgs false
set_option maxRecDepth 100000 in
theorem s_SensorsCovered (a : Option Addr) (n cap : Nat) (L : List Sg) (A : Option Addr) (m capF : Nat) (F : List Int) (p q : Int) (w : World) (hs : Sgs w a n L) (hf : Sl w A m F) :
    Calls Try.prog 46 #[.agg #[.slice a n cap], .slice A m capF, .int .i64 p, .int .i64 q] w (GivesC w (cvV L F p q) (cvE L F p q)) := by
  have HS := Lib.hid hs; have HL := Lib.hid hs.1
  have HF := Lib.hid hf; have HM := Lib.hid hf.1
  have hm := hf.2.1
  clear hs hf
  cases hv : senB L F
  · have HT : Hid (cvV L F p q = [] ∧ cvE L F p q = 1) := Lib.hid (by
      have : cvE L F p q = 1 := by unfold cvE; rw [hv]; simp
      unfold cvV; rw [this]; simp)
    go_enter Try.func46, Try.ntmps46
    go_wp2_with (go_at_call 101; refine (s_l05Sensors a n cap L A m capF F _ (HS.out.later (by repeat (first | (with_reducible exact Later.refl _) | (with_reducible exact Hid.out (by assumption)) | (with_reducible refine Later.alloc ?_ _) | (with_reducible refine Later.setCell ?_ (by simp; omega) _) | (with_reducible refine Later.setCell ?_ (by simp) _) | (with_reducible refine Later.drewN ?_ _) | (with_reducible refine Later.drew ?_) | (with_reducible refine Later.trans ?_ (Hid.out (by assumption)))))) (sl_lat HF.out (by repeat (first | (with_reducible exact Later.refl _) | (with_reducible exact Hid.out (by assumption)) | (with_reducible refine Later.alloc ?_ _) | (with_reducible refine Later.setCell ?_ (by simp; omega) _) | (with_reducible refine Later.setCell ?_ (by simp) _) | (with_reducible refine Later.drewN ?_ _) | (with_reducible refine Later.drew ?_) | (with_reducible refine Later.trans ?_ (Hid.out (by assumption))))))).mono ?_; rw [hv]; rintro e w1 ⟨rfl, hb⟩; have H1 := Lib.hid hb; clear hb)
    go_ret2
    exact ⟨.slice none 0 0, by rw [HT.out.2]; rfl, by rw [HT.out.1]; exact own_none _ _, (by repeat (first | (with_reducible exact Later.refl _) | (with_reducible exact Hid.out (by assumption)) | (with_reducible refine Later.alloc ?_ _) | (with_reducible refine Later.setCell ?_ (by simp; omega) _) | (with_reducible refine Later.setCell ?_ (by simp) _) | (with_reducible refine Later.drewN ?_ _) | (with_reducible refine Later.drew ?_) | (with_reducible refine Later.trans ?_ (Hid.out (by assumption)))))⟩
  obtain ⟨hl, h32, hr⟩ := (senB_iff L F).1 hv
  rw [HM.out] at h32
  by_cases he : trE L p q = 0
  · obtain ⟨_, hn, hp⟩ := trE_ok he
    have HE := Lib.hid he
    have HO := Lib.hid ((layB_iff L).1 hl).2.2.1
    have h24 := ((layB_iff L).1 hl).2.1
    rw [HL.out] at h24
    obtain ⟨t1, t2⟩ := tot_bd hl
    rw [isN_iff] at hn
    rw [isP_iff] at hp
    obtain ⟨q1, q2, q3⟩ := hn
    obtain ⟨p1, p2⟩ := hp
    have HR := Lib.hid hr
    have HT : Hid (cvV L F p q = cvK (totL L) F p q m ∧ cvE L F p q = 0) := Lib.hid (by
      have : cvE L F p q = 0 := by unfold cvE; rw [hv, he]; simp
      unfold cvV; rw [this, HM.out]; simp)
    have KB : Hid (∀ W', Later (w.alloc (.cells #[.slice a n cap] 26)) W' → W'.cell? ⟨w.heap.size, 0, none⟩ = some (.slice a n cap)) := Lib.hid (fun W' k => by rw [k.cell (p := ⟨w.heap.size, 0, none⟩) (by simp)]; simp)
    clear he hl hr
    go_enter Try.func46, Try.ntmps46
    go_wp2_with (first
      | (go_at_call 101; refine (s_l05Sensors a n cap L A m capF F _ (HS.out.later (by repeat (first | (with_reducible exact Later.refl _) | (with_reducible exact Hid.out (by assumption)) | (with_reducible refine Later.alloc ?_ _) | (with_reducible refine Later.setCell ?_ (by simp; omega) _) | (with_reducible refine Later.setCell ?_ (by simp) _) | (with_reducible refine Later.drewN ?_ _) | (with_reducible refine Later.drew ?_) | (with_reducible refine Later.trans ?_ (Hid.out (by assumption)))))) (sl_lat HF.out (by repeat (first | (with_reducible exact Later.refl _) | (with_reducible exact Hid.out (by assumption)) | (with_reducible refine Later.alloc ?_ _) | (with_reducible refine Later.setCell ?_ (by simp; omega) _) | (with_reducible refine Later.setCell ?_ (by simp) _) | (with_reducible refine Later.drewN ?_ _) | (with_reducible refine Later.drew ?_) | (with_reducible refine Later.trans ?_ (Hid.out (by assumption))))))).mono ?_; rw [hv]; rintro e w1 ⟨rfl, hb⟩; have H1 := Lib.hid hb; have c1 := KB.out w1 hb; have z1 : w.heap.size + 1 ≤ w1.heap.size := (by have := hb.size; rw [World.size_alloc] at this; exact this); clear hb)
      | (go_at_call 77; refine (s_l05Train a n cap L p q _ (HS.out.later (by repeat (first | (with_reducible exact Later.refl _) | (with_reducible exact Hid.out (by assumption)) | (with_reducible refine Later.alloc ?_ _) | (with_reducible refine Later.setCell ?_ (by simp; omega) _) | (with_reducible refine Later.setCell ?_ (by simp) _) | (with_reducible refine Later.drewN ?_ _) | (with_reducible refine Later.drew ?_) | (with_reducible refine Later.trans ?_ (Hid.out (by assumption))))))).mono ?_; rw [HE.out]; rintro e w2 ⟨rfl, hb⟩; have H2 := Lib.hid hb; have z2 := hb.size; clear hb))
    have HB0 : Hid (Later (w.alloc (.cells #[.slice a n cap] 26)) w2) := Lib.hid (H1.out.trans H2.out)
    clear c1
    go_loopw [11, 12] (fun v i wr => ∃ k : Nat, k ≤ m ∧ i = .int .i64 k ∧ Own wr (w.heap.size + 1) v (cvK (totL L) F p q k) ∧ Later (w.alloc (.cells #[.slice a n cap] 26)) wr) (fun _ i _ => m - (intOf i).toNat)
    case atStart => exact ⟨0, by omega, rfl, by rw [cvK_0]; exact own_new w2 _ (by omega), HB0.out.alloc _⟩
    case round =>
      obtain ⟨k, hk, rfl, ho, hlw⟩ := hrel
      have O := Lib.hid ho
      have HW1 := Lib.hid hlw
      have HW : Hid (Later w wr) := Lib.hid (((Later.refl _).alloc _).trans hlw)
      have hz : w.heap.size + 1 ≤ wr.heap.size := by have := hlw.size; rw [World.size_alloc] at this; exact this
      have cb := KB.out wr hlw
      have hlen := cvK_len (totL L) F p q k
      clear ho hlw
      by_cases hlt : k < m
      · obtain ⟨b, off, rfl, hc⟩ := (sl_lat HF.out HW.out).at k hlt
        have hbk := cell_lt hc
        obtain ⟨g0, g1, _⟩ := ris_at HR.out k (by rw [HM.out]; exact hlt)
        have KK : Hid (∀ W', Later wr W' → W'.cell? ⟨w.heap.size, 0, none⟩ = some (.slice a n cap) ∧ W'.cell? ⟨b, off + k, none⟩ = some (.int .i64 (gx F k))) := Lib.hid (fun W' j => ⟨KB.out W' (HW1.out.trans j), by rw [j.cell (p := ⟨b, off + k, none⟩) hbk]; exact hc⟩)
        by_cases hcv : (p - gx F k) % totL L < q
        · have HD : Hid (cvK (totL L) F p q (k + 1) = cvK (totL L) F p q k ++ [(k : Int)]) := Lib.hid (by rw [cvK_succ, if_pos hcv])
          have dcv : decide ((p - gx F k) % totL L < q) = true := by simpa using hcv
          have DCV := Lib.hid dcv
          clear hcv dcv
          go_wp2_with fail
          go_region_held3 (fun w' => w'.cell? ⟨w.heap.size, 0, none⟩ = some (.slice a n cap) ∧ w'.cell? ⟨b, off + k, none⟩ = some (.int .i64 (gx F k))) (exact KK.out _ (by repeat (first | (with_reducible exact Later.refl _) | (with_reducible exact Hid.out (by assumption)) | (with_reducible refine Later.alloc ?_ _) | (with_reducible refine Later.setCell ?_ (by simp; omega) _) | (with_reducible refine Later.setCell ?_ (by simp) _) | (with_reducible refine Later.drewN ?_ _) | (with_reducible refine Later.drew ?_) | (with_reducible refine Later.trans ?_ (Hid.out (by assumption))))))
            (first
              | (go_at_call 73; refine (s_Total a n cap L _ (HS.out.later (by repeat (first | (with_reducible exact Later.refl _) | (with_reducible exact Hid.out (by assumption)) | (with_reducible refine Later.alloc ?_ _) | (with_reducible refine Later.setCell ?_ (by simp; omega) _) | (with_reducible refine Later.setCell ?_ (by simp) _) | (with_reducible refine Later.drewN ?_ _) | (with_reducible refine Later.drew ?_) | (with_reducible refine Later.trans ?_ (Hid.out (by assumption)))))) HO.out h24).mono ?_; rintro e w4 ⟨rfl, hb⟩; have H4 := Lib.hid hb; clear hb)
              | (go_at_call 103; refine (s_l05Covers (totL L) p q (gx F k) _ (by omega) t2 p1 p2 g0 g1).mono ?_; rw [DCV.out]; rintro e w' ⟨rfl, rfl⟩))
          all_goals
            refine then_into (fun W => Later wr W) (by repeat (first | (with_reducible exact Later.refl _) | (with_reducible exact Hid.out (by assumption)) | (with_reducible refine Later.alloc ?_ _) | (with_reducible refine Later.setCell ?_ (by simp; omega) _) | (with_reducible refine Later.setCell ?_ (by simp) _) | (with_reducible refine Later.drewN ?_ _) | (with_reducible refine Later.drew ?_) | (with_reducible refine Later.trans ?_ (Hid.out (by assumption))))) ?_
            intro W hW
            have O2 := Lib.hid (O.out.lat hW)
            have HX : Hid (Later (w.alloc (.cells #[.slice a n cap] 26)) W) := Lib.hid (HW1.out.trans hW)
            have hz2 : w.heap.size + 1 ≤ W.heap.size := Nat.le_trans hz hW.size
            clear hW
            go_wp2_with (at_builtin; go_must (refine app1 rfl _ _ rfl (w.heap.size + 1) _ _ _ _ _ O2.out rfl rfl ⟨by omega, by omega⟩ (by omega) hz2 ?_; intro v' w5 ho hg; have O5 := Lib.hid ho; have W5 : Hid (Later (w.alloc (.cells #[.slice a n cap] 26)) w5) := Lib.hid (Below.grown HX.out hg HX.out.size (fun j e => by have := (O2.out.lt j e).1; rw [World.size_alloc]; omega)); clear ho hg))
            go_roundw
            case rel => exact ⟨k + 1, by omega, by go_num, by rw [HD.out]; exact O5.out, W5.out⟩
            case measure => simp [intOf]; omega
        · have HD : Hid (cvK (totL L) F p q (k + 1) = cvK (totL L) F p q k) := Lib.hid (by rw [cvK_succ, if_neg hcv])
          have dcv : decide ((p - gx F k) % totL L < q) = false := by simpa using hcv
          have DCV := Lib.hid dcv
          clear hcv dcv
          go_wp2_with fail
          go_region_held3 (fun w' => w'.cell? ⟨w.heap.size, 0, none⟩ = some (.slice a n cap) ∧ w'.cell? ⟨b, off + k, none⟩ = some (.int .i64 (gx F k))) (exact KK.out _ (by repeat (first | (with_reducible exact Later.refl _) | (with_reducible exact Hid.out (by assumption)) | (with_reducible refine Later.alloc ?_ _) | (with_reducible refine Later.setCell ?_ (by simp; omega) _) | (with_reducible refine Later.setCell ?_ (by simp) _) | (with_reducible refine Later.drewN ?_ _) | (with_reducible refine Later.drew ?_) | (with_reducible refine Later.trans ?_ (Hid.out (by assumption))))))
            (first
              | (go_at_call 73; refine (s_Total a n cap L _ (HS.out.later (by repeat (first | (with_reducible exact Later.refl _) | (with_reducible exact Hid.out (by assumption)) | (with_reducible refine Later.alloc ?_ _) | (with_reducible refine Later.setCell ?_ (by simp; omega) _) | (with_reducible refine Later.setCell ?_ (by simp) _) | (with_reducible refine Later.drewN ?_ _) | (with_reducible refine Later.drew ?_) | (with_reducible refine Later.trans ?_ (Hid.out (by assumption)))))) HO.out h24).mono ?_; rintro e w4 ⟨rfl, hb⟩; have H4 := Lib.hid hb; clear hb)
              | (go_at_call 103; refine (s_l05Covers (totL L) p q (gx F k) _ (by omega) t2 p1 p2 g0 g1).mono ?_; rw [DCV.out]; rintro e w' ⟨rfl, rfl⟩))
          all_goals
            refine then_into (fun W => Later wr W) (by repeat (first | (with_reducible exact Later.refl _) | (with_reducible exact Hid.out (by assumption)) | (with_reducible refine Later.alloc ?_ _) | (with_reducible refine Later.setCell ?_ (by simp; omega) _) | (with_reducible refine Later.setCell ?_ (by simp) _) | (with_reducible refine Later.drewN ?_ _) | (with_reducible refine Later.drew ?_) | (with_reducible refine Later.trans ?_ (Hid.out (by assumption))))) ?_
            intro W hW
            have O2 := Lib.hid (O.out.lat hW)
            have HX : Hid (Later (w.alloc (.cells #[.slice a n cap] 26)) W) := Lib.hid (HW1.out.trans hW)
            clear hW
            go_wp2_with fail
            go_roundw
            case rel => exact ⟨k + 1, by omega, by go_num, by rw [HD.out]; exact O2.out, HX.out⟩
            case measure => simp [intOf]; omega
      · obtain rfl : k = m := by omega
        go_wp2
        go_ret2
        exact ⟨_, by rw [HT.out.2]; rfl, by rw [HT.out.1]; exact O.out.mono (Nat.le_succ _), HW.out⟩
  · have HT : Hid (cvV L F p q = [] ∧ cvE L F p q = trE L p q) := Lib.hid (by
      have : cvE L F p q = trE L p q := by unfold cvE; rw [hv]; simp
      unfold cvV; rw [this]; simp [he])
    have he0 : (trE L p q != 0) = true := by simpa using he
    clear he
    go_enter Try.func46, Try.ntmps46
    go_wp2_with (first
      | (go_at_call 101; refine (s_l05Sensors a n cap L A m capF F _ (HS.out.later (by repeat (first | (with_reducible exact Later.refl _) | (with_reducible exact Hid.out (by assumption)) | (with_reducible refine Later.alloc ?_ _) | (with_reducible refine Later.setCell ?_ (by simp; omega) _) | (with_reducible refine Later.setCell ?_ (by simp) _) | (with_reducible refine Later.drewN ?_ _) | (with_reducible refine Later.drew ?_) | (with_reducible refine Later.trans ?_ (Hid.out (by assumption)))))) (sl_lat HF.out (by repeat (first | (with_reducible exact Later.refl _) | (with_reducible exact Hid.out (by assumption)) | (with_reducible refine Later.alloc ?_ _) | (with_reducible refine Later.setCell ?_ (by simp; omega) _) | (with_reducible refine Later.setCell ?_ (by simp) _) | (with_reducible refine Later.drewN ?_ _) | (with_reducible refine Later.drew ?_) | (with_reducible refine Later.trans ?_ (Hid.out (by assumption))))))).mono ?_; rw [hv]; rintro e w1 ⟨rfl, hb⟩; obtain ⟨H1, hcc, hff, hzz⟩ := later_facts hb; clear hb; (try simp at hzz))
      | (go_at_call 77; refine (s_l05Train a n cap L p q _ (HS.out.later (by repeat (first | (with_reducible exact Later.refl _) | (with_reducible exact Hid.out (by assumption)) | (with_reducible refine Later.alloc ?_ _) | (with_reducible refine Later.setCell ?_ (by simp; omega) _) | (with_reducible refine Later.setCell ?_ (by simp) _) | (with_reducible refine Later.drewN ?_ _) | (with_reducible refine Later.drew ?_) | (with_reducible refine Later.trans ?_ (Hid.out (by assumption))))))).mono ?_; rintro e w2 ⟨rfl, hb⟩; have H2 := Lib.hid hb; clear hb))
    go_ret2
    exact ⟨.slice none 0 0, by rw [HT.out.2]; rfl, by rw [HT.out.1]; exact own_none _ _, (by repeat (first | (with_reducible exact Later.refl _) | (with_reducible exact Hid.out (by assumption)) | (with_reducible refine Later.alloc ?_ _) | (with_reducible refine Later.setCell ?_ (by simp; omega) _) | (with_reducible refine Later.setCell ?_ (by simp) _) | (with_reducible refine Later.drewN ?_ _) | (with_reducible refine Later.drew ?_) | (with_reducible refine Later.trans ?_ (Hid.out (by assumption)))))⟩
end Go.Proofs.Ytehinlecppbjeaa
