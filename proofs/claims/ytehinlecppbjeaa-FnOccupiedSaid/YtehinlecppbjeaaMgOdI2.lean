/- Contracts of chapter 5: the blocks that a train occupies: the model's functions. | Contracts of chapter 5: loads of blocks: plain words; the model's function. | The blocks that are ranged over, by a round that may write one block that lay there (a map). | Contracts of chapter 2: the program's own methods on intervals. | Contracts of chapter 2: the program's operations on intervals. | Contracts of chapter 5: the blocks that a train occupies, as a map: the program's function. | The layings of maps.Keys, slices.Sorted and slices.Sort at this seat. | Contracts of chapter 5: the blocks that a train occupies, as a sorted list: the program's functions. | Contracts of chapter 5: loads of blocks: the program's function. | The walk of the law on occupied blocks. -/
import Derived.Test.YtehinlecppbjeaaMgOdI1
import Derived.Test.YtehinlecppbjeaaBkT
import Derived.Test.YtehinlecppbjeaaSgW
import Derived.IntWalk
import Derived.Test.YtehinlecppbjeaaBkQ
import Derived.Test.YtehinlecppbjeaaIvN
import Derived.Test.YtehinlecppbjeaaBkF
import Derived.Maps.OwnIn
import Derived.Shelf.SlIterI.Nil
import Derived.Shelf.SortM.Plain
import Derived.Shelf.SortM.SortNone
import Derived.Test.YtehinlecppbjeaaProg
import Derived.Maps.RangeWalk
import Derived.Test.YtehinlecppbjeaaBkL
import Derived.Test.YtehinlecppbjeaaLki
import Derived.Test.YtehinlecppbjeaaRow
namespace Go.Proofs.Ytehinlecppbjeaa
open Go.RowKit
set_option maxHeartbeats 4000000
set_option linter.unusedVariables false
set_option linter.unusedSimpArgs false
set_option maxRecDepth 100000 in
theorem s_l05Blocks (a : Option Addr) (n cap : Nat) (L : List Sg) (A : Option Addr) (m capF : Nat) (F : List Int) (p q : Int) (w : World) (hs : Sgs w a n L) (hf : Sl w A m F) (hb : bkB L F = true) (p1 : 0 ≤ p) (p2 : p < totL L) (q1 : 1 ≤ q) (q2 : q ≤ totL L) :
    Calls Try.prog 90 #[.agg #[.slice a n cap], .slice A m capF, .int .i64 p, .int .i64 q] w (ListIs w (ocK L F p q m)) := by
  have HS := Lib.hid hs; have HL := Lib.hid hs.1
  have HF := Lib.hid hf; have HM := Lib.hid hf.1
  obtain ⟨hv, hk⟩ := bkB_lay hb
  have HB := Lib.hid hb; have HV := Lib.hid hv; have HK := Lib.hid hk
  have HO := Lib.hid ((layB_iff L).1 hv).2.2.1
  have h24 := ((layB_iff L).1 hv).2.1
  rw [HL.out] at h24
  have hm8 : m ≤ 8 := by have := ((bkC_iff L F).1 hk).2.1; rw [HM.out] at this; exact this
  obtain ⟨t1, t2⟩ := tot_bd hv
  obtain ⟨r1, r2⟩ : 0 ≤ rearK (totL L) p q ∧ rearK (totL L) p q < totL L := mod_rng _ _ (by omega)
  obtain ⟨kr, rb, hat, hib, hr1, hr2⟩ := blk_some hb ⟨r1, r2⟩
  have HAT := Lib.hid hat; have HIB := Lib.hid hib
  have HOC : Hid (∀ k, k < m → ocB L F p q k = (decide ((k : Int) = (rb : Int)) || decide ((p - stK L F k) % totL L < q))) := Lib.hid (fun k hkm => oc_spec hb ⟨p1, p2⟩ ⟨q1, q2⟩ hib.1 ⟨hr1, hr2⟩ (by rw [HM.out]; exact hkm))
  have HST : Hid (∀ k, k < m → gx F k = (fstK F k : Int) ∧ fstK F k < n ∧ 0 ≤ stK L F k ∧ stK L F k < totL L) := Lib.hid (fun k hkm => by
    have hkF : k < F.length := by rw [HM.out]; exact hkm
    obtain ⟨g1, g2, g3⟩ := blk_bd hk k hkF
    obtain ⟨x1, x2, x3⟩ := blk_at hb k hkF
    rw [HL.out] at g3
    exact ⟨g1, by omega, x1, by omega⟩)
  have HSS : Hid ((strs L).length = n ∧ ∀ k, k < m → gx (strs L) (fstK F k) = stK L F k) := Lib.hid (by
    have e : strs L = (List.range n).map (upL L) := by unfold strs; rw [hv, ← HL.out]; simp
    refine ⟨by rw [e]; simp, fun k hkm => ?_⟩
    have := (HST.out k hkm).2.1
    rw [e, gx_of _ (fstK F k) (by simp; omega)]
    simp [stK])
  have KB : Hid (∀ W', Later (w.alloc (.cells #[.slice a n cap] 26)) W' → W'.cell? ⟨w.heap.size, 0, none⟩ = some (.slice a n cap)) := Lib.hid (fun W' k => by rw [k.cell (p := ⟨w.heap.size, 0, none⟩) (by simp)]; simp)
  have hre : (p - q + 1) % totL L = rearK (totL L) p q := rfl
  have HRE := Lib.hid hre
  clear hs hf hb hv hk hat hib hre hr1 hr2
  go_enter Try.func90, Try.ntmps90
  go_wp2_with fail
  refine (s_Total a n cap L _ (HS.out.later (by repeat (first | (with_reducible exact Later.refl _) | (with_reducible exact Hid.out (by assumption)) | (with_reducible refine Later.alloc ?_ _) | (with_reducible refine Later.setCell ?_ (by simp; omega) _) | (with_reducible refine Later.setCell ?_ (by simp) _) | (with_reducible refine Later.drewN ?_ _) | (with_reducible refine Later.drew ?_) | (with_reducible refine Later.trans ?_ (Hid.out (by assumption)))))) HO.out h24).mono ?_
  rintro e w1 ⟨rfl, hb⟩
  have c1 := KB.out w1 hb
  have H1 := Lib.hid hb
  clear hb
  go_wp2_with fail
  refine (s_l03Starts a n cap L _ (HS.out.later (by repeat (first | (with_reducible exact Later.refl _) | (with_reducible exact Hid.out (by assumption)) | (with_reducible refine Later.alloc ?_ _) | (with_reducible refine Later.setCell ?_ (by simp; omega) _) | (with_reducible refine Later.setCell ?_ (by simp) _) | (with_reducible refine Later.drewN ?_ _) | (with_reducible refine Later.drew ?_) | (with_reducible refine Later.trans ?_ (Hid.out (by assumption)))))) HV.out).mono ?_
  rintro e w2 ⟨v2, rfl, ho, hb⟩
  obtain ⟨aS, kS, rfl, hsl, _⟩ := ho.rd
  have H2 := Lib.hid (H1.out.trans hb)
  have c2 := KB.out w2 H2.out
  have S2 := Lib.hid hsl
  rw [HSS.out.1] at S2 ⊢
  clear hb ho hsl c1 H1
  go_wp2_with fail
  have HP2 : Hid (∀ W', Later w2 W' → W'.cell? ⟨w.heap.size, 0, none⟩ = some (.slice a n cap)) := Lib.hid (fun W' k => KB.out W' (H2.out.trans k))
  have k1 : IntKind.i64.wrap (p - q) = p - q := IntWalk.i64_in _ (by omega)
  have k2 : IntKind.i64.wrap (p - q + 1) = p - q + 1 := IntWalk.i64_in _ (by omega)
  go_region_held3 (fun w' => w'.cell? ⟨w.heap.size, 0, none⟩ = some (.slice a n cap)) ((refine HP2.out _ ?_; ((repeat (first | (with_reducible exact Later.refl _) | (with_reducible exact Hid.out (by assumption)) | (with_reducible refine Later.alloc ?_ _) | (with_reducible refine Later.setCell ?_ (by simp; omega) _) | (with_reducible refine Later.setCell ?_ (by simp) _) | (with_reducible refine Later.drewN ?_ _) | (with_reducible refine Later.drew ?_) | (with_reducible refine Later.trans ?_ (Hid.out (by assumption))))); done)))
    (first
      | (go_at_call 78; refine (s_l05Mod (p - q + 1) (totL L) _ (by omega) (by omega) (by omega) (by omega)).mono ?_; rw [HRE.out]; rintro e w' ⟨rfl, rfl⟩)
      | (go_at_call 109; refine (s_l04At a n cap L A m capF F (rearK (totL L) p q) kr rb _ (HS.out.later (by repeat (first | (with_reducible exact Later.refl _) | (with_reducible exact Hid.out (by assumption)) | (with_reducible refine Later.alloc ?_ _) | (with_reducible refine Later.setCell ?_ (by simp; omega) _) | (with_reducible refine Later.setCell ?_ (by simp) _) | (with_reducible refine Later.drewN ?_ _) | (with_reducible refine Later.drew ?_) | (with_reducible refine Later.trans ?_ (Hid.out (by assumption)))))) (HF.out.later (by repeat (first | (with_reducible exact Later.refl _) | (with_reducible exact Hid.out (by assumption)) | (with_reducible refine Later.alloc ?_ _) | (with_reducible refine Later.setCell ?_ (by simp; omega) _) | (with_reducible refine Later.setCell ?_ (by simp) _) | (with_reducible refine Later.drewN ?_ _) | (with_reducible refine Later.drew ?_) | (with_reducible refine Later.trans ?_ (Hid.out (by assumption)))))) (by omega) (by omega) HV.out HK.out HAT.out HIB.out).mono ?_; rintro e w3 ⟨rfl, hb⟩; have H3 := Lib.hid hb; clear hb))
  all_goals
    refine then_into (fun W => Later w2 W) (by repeat (first | (with_reducible exact Later.refl _) | (with_reducible exact Hid.out (by assumption)) | (with_reducible refine Later.alloc ?_ _) | (with_reducible refine Later.setCell ?_ (by simp; omega) _) | (with_reducible refine Later.setCell ?_ (by simp) _) | (with_reducible refine Later.drewN ?_ _) | (with_reducible refine Later.drew ?_) | (with_reducible refine Later.trans ?_ (Hid.out (by assumption))))) ?_
    intro W3 hW3
    have H4 := Lib.hid (H2.out.trans hW3)
    have S3 := Lib.hid (sl_lat S2.out hW3)
    clear hW3 c2 k1 k2
    go_wp2_with fail
    have hz4 := H4.out.size
    rw [World.size_alloc] at hz4
    have O4 := Lib.hid (own_new W3 W3.heap.size (Nat.le_refl _))
    generalize ht : totL L = T at *
    have HT := Lib.hid ht
    clear ht
    go_loopw [12, 13] (fun v i wr => ∃ k : Nat, k ≤ m ∧ i = .int .i64 k ∧ Own wr W3.heap.size v (ocK L F p q k) ∧ Later W3 wr) (fun _ i _ => m - (intOf i).toNat)
    case atStart => exact ⟨0, by omega, rfl, by rw [ocK_0]; exact O4.out, (Later.refl _).alloc _⟩
    case round =>
      obtain ⟨k, hk, rfl, ho, hl3⟩ := hrel
      have O2 := Lib.hid ho
      have HW3 := Lib.hid hl3
      have HW : Hid (Later w wr) := Lib.hid ((((Later.refl _).alloc _).trans H4.out).trans hl3)
      have hz2 := hl3.size
      have hlen := ocK_len L F p q k
      clear ho hl3
      by_cases hlt : k < m
      · obtain ⟨bA, oA, rfl, hcA⟩ := (sl_lat HF.out HW.out).at k hlt
        obtain ⟨g1, g2, st0, st1⟩ := HST.out k hlt
        rw [g1] at hcA
        obtain ⟨bS, oS, rfl, hcS⟩ := (sl_lat S3.out HW3.out).at (fstK F k) g2
        rw [HSS.out.2 k hlt] at hcS
        have HOK := Lib.hid (HOC.out k hlt)
        have HSU := Lib.hid (ocK_succ L F p q k)
        generalize fstK F k = f at hcA g2 hcS
        clear g1
        by_cases hkr : k = rb
        · have HD : Hid (ocK L F p q (k + 1) = ocK L F p q k ++ [(k : Int)]) := Lib.hid (by rw [HSU.out, HOK.out, hkr]; simp)
          have d1 : ((k : Int) == (rb : Int)) = true := by rw [beq_iff_eq]; omega
          have d2 : (k == rb) = true := by simpa using hkr
          clear hkr
          go_wp2_with (at_builtin; go_must (refine app1 rfl _ _ rfl W3.heap.size _ _ _ _ _ O2.out rfl rfl ⟨by omega, by omega⟩ (by omega) hz2 ?_; intro v' w5 ho hg; have O5 := Lib.hid ho; have W5 : Hid (Later W3 w5) := Lib.hid (Below.grown HW3.out hg HW3.out.size (fun j e => (O2.out.lt j e).1)); clear ho hg))
          go_roundw
          case rel => exact ⟨k + 1, by omega, by go_num, by rw [HD.out]; exact O5.out, W5.out⟩
          case measure => simp [intOf]; omega
        · have d1 : ((k : Int) == (rb : Int)) = false := by rw [beq_eq_false_iff_ne]; omega
          have d2 : (k == rb) = false := by simpa using hkr
          have hkr2 : ¬ ((k : Int) = (rb : Int)) := by omega
          clear hkr
          by_cases hcv : (p - stK L F k) % T < q
          · have HD : Hid (ocK L F p q (k + 1) = ocK L F p q k ++ [(k : Int)]) := Lib.hid (by rw [HSU.out, HOK.out]; simp [hcv])
            have dcv : decide ((p - stK L F k) % T < q) = true := by simpa using hcv
            have DCV := Lib.hid dcv
            clear hcv dcv
            go_wp2_with (first | (go_at_call 103; refine (s_l05Covers T p q (stK L F k) _ (by omega) t2 p1 p2 st0 st1).mono ?_; rw [DCV.out]; rintro e w' ⟨rfl, rfl⟩) | (at_builtin; go_must (refine app1 rfl _ _ rfl W3.heap.size _ _ _ _ _ O2.out rfl rfl ⟨by omega, by omega⟩ (by omega) hz2 ?_; intro v' w5 ho hg; have O5 := Lib.hid ho; have W5 : Hid (Later W3 w5) := Lib.hid (Below.grown HW3.out hg HW3.out.size (fun j e => (O2.out.lt j e).1)); clear ho hg)))
            go_roundw
            case rel => exact ⟨k + 1, by omega, by go_num, by rw [HD.out]; exact O5.out, W5.out⟩
            case measure => simp [intOf]; omega
          · have HD : Hid (ocK L F p q (k + 1) = ocK L F p q k) := Lib.hid (by rw [HSU.out, HOK.out]; simp [hcv, hkr2])
            have dcv : decide ((p - stK L F k) % T < q) = false := by simpa using hcv
            have DCV := Lib.hid dcv
            clear hcv dcv
            go_wp2_with (go_at_call 103; refine (s_l05Covers T p q (stK L F k) _ (by omega) t2 p1 p2 st0 st1).mono ?_; rw [DCV.out]; rintro e w' ⟨rfl, rfl⟩)
            go_roundw
            case rel => exact ⟨k + 1, by omega, by go_num, by rw [HD.out]; exact O2.out, HW3.out⟩
            case measure => simp [intOf]; omega
      · obtain rfl : k = m := by omega
        go_wp2
        go_ret
        exact ⟨_, rfl, O2.out.mono (by omega), HW.out⟩
set_option maxRecDepth 100000 in
theorem s_OccupiedBlocks (a : Option Addr) (n cap : Nat) (L : List Sg) (A : Option Addr) (m capF : Nat) (F : List Int) (p q : Int) (w : World) (hs : Sgs w a n L) (hf : Sl w A m F) :
    Calls Try.prog 38 #[.agg #[.slice a n cap], .slice A m capF, .int .i64 p, .int .i64 q] w (GivesC w (ocV L F p q) (ocE L F p q)) := by
  have HS := Lib.hid hs; have HF := Lib.hid hf; have HM := Lib.hid hf.1
  have KB : Hid (∀ W', Later (w.alloc (.cells #[.slice a n cap] 26)) W' → W'.cell? ⟨w.heap.size, 0, none⟩ = some (.slice a n cap)) := Lib.hid (fun W' k => by rw [k.cell (p := ⟨w.heap.size, 0, none⟩) (by simp)]; simp)
  clear hs hf
  cases hb : bkB L F
  · have HT : Hid (ocV L F p q = [] ∧ ocE L F p q = 1) := Lib.hid (by
      have : ocE L F p q = 1 := by unfold ocE; rw [hb]; simp
      unfold ocV; rw [this]; simp)
    go_enter Try.func38, Try.ntmps38
    go_wp2_with fail
    refine (s_AreBlocks a n cap L A m capF F _ (HS.out.later (by repeat (first | (with_reducible exact Later.refl _) | (with_reducible exact Hid.out (by assumption)) | (with_reducible refine Later.alloc ?_ _) | (with_reducible refine Later.setCell ?_ (by simp; omega) _) | (with_reducible refine Later.setCell ?_ (by simp) _) | (with_reducible refine Later.drewN ?_ _) | (with_reducible refine Later.drew ?_) | (with_reducible refine Later.trans ?_ (Hid.out (by assumption)))))) (HF.out.later (by repeat (first | (with_reducible exact Later.refl _) | (with_reducible exact Hid.out (by assumption)) | (with_reducible refine Later.alloc ?_ _) | (with_reducible refine Later.setCell ?_ (by simp; omega) _) | (with_reducible refine Later.setCell ?_ (by simp) _) | (with_reducible refine Later.drewN ?_ _) | (with_reducible refine Later.drew ?_) | (with_reducible refine Later.trans ?_ (Hid.out (by assumption))))))).mono ?_
    rw [hb]
    rintro e w1 ⟨rfl, hb1⟩
    have H1 := Lib.hid hb1
    clear hb1
    go_wp2_with fail
    go_ret2
    exact ⟨.slice none 0 0, by rw [HT.out.2]; rfl, by rw [HT.out.1]; exact own_none _ _, (by repeat (first | (with_reducible exact Later.refl _) | (with_reducible exact Hid.out (by assumption)) | (with_reducible refine Later.alloc ?_ _) | (with_reducible refine Later.setCell ?_ (by simp; omega) _) | (with_reducible refine Later.setCell ?_ (by simp) _) | (with_reducible refine Later.drewN ?_ _) | (with_reducible refine Later.drew ?_) | (with_reducible refine Later.trans ?_ (Hid.out (by assumption)))))⟩
  · have HB := Lib.hid hb
    by_cases he : trE L p q = 0
    · obtain ⟨hv, hn, hp⟩ := trE_ok he
      obtain ⟨n1, n2, n3⟩ := (isN_iff _ _).1 hn
      obtain ⟨p1, p2⟩ := (isP_iff _ _).1 hp
      have HE := Lib.hid he
      have HT : Hid (ocV L F p q = ocK L F p q m ∧ ocE L F p q = 0) := Lib.hid (by
        have : ocE L F p q = 0 := by unfold ocE; rw [hb, he]; simp
        unfold ocV; rw [this, HM.out]; simp)
      clear hv hn hp he
      go_enter Try.func38, Try.ntmps38
      go_wp2_with fail
      refine (s_AreBlocks a n cap L A m capF F _ (HS.out.later (by repeat (first | (with_reducible exact Later.refl _) | (with_reducible exact Hid.out (by assumption)) | (with_reducible refine Later.alloc ?_ _) | (with_reducible refine Later.setCell ?_ (by simp; omega) _) | (with_reducible refine Later.setCell ?_ (by simp) _) | (with_reducible refine Later.drewN ?_ _) | (with_reducible refine Later.drew ?_) | (with_reducible refine Later.trans ?_ (Hid.out (by assumption)))))) (HF.out.later (by repeat (first | (with_reducible exact Later.refl _) | (with_reducible exact Hid.out (by assumption)) | (with_reducible refine Later.alloc ?_ _) | (with_reducible refine Later.setCell ?_ (by simp; omega) _) | (with_reducible refine Later.setCell ?_ (by simp) _) | (with_reducible refine Later.drewN ?_ _) | (with_reducible refine Later.drew ?_) | (with_reducible refine Later.trans ?_ (Hid.out (by assumption))))))).mono ?_
      rw [hb]
      rintro e w1 ⟨rfl, hb1⟩
      have c1 := KB.out w1 hb1
      have H1 := Lib.hid hb1
      clear hb1
      go_wp2_with fail
      refine (s_l05Train a n cap L p q _ (HS.out.later (by repeat (first | (with_reducible exact Later.refl _) | (with_reducible exact Hid.out (by assumption)) | (with_reducible refine Later.alloc ?_ _) | (with_reducible refine Later.setCell ?_ (by simp; omega) _) | (with_reducible refine Later.setCell ?_ (by simp) _) | (with_reducible refine Later.drewN ?_ _) | (with_reducible refine Later.drew ?_) | (with_reducible refine Later.trans ?_ (Hid.out (by assumption))))))).mono ?_
      rw [HE.out]
      rintro e w2 ⟨rfl, hb2⟩
      have H2 := Lib.hid (H1.out.trans hb2)
      have c2 := KB.out w2 H2.out
      clear hb2 c1 H1
      go_wp2_with fail
      refine (s_l05Blocks a n cap L A m capF F p q _ (HS.out.later (by repeat (first | (with_reducible exact Later.refl _) | (with_reducible exact Hid.out (by assumption)) | (with_reducible refine Later.alloc ?_ _) | (with_reducible refine Later.setCell ?_ (by simp; omega) _) | (with_reducible refine Later.setCell ?_ (by simp) _) | (with_reducible refine Later.drewN ?_ _) | (with_reducible refine Later.drew ?_) | (with_reducible refine Later.trans ?_ (Hid.out (by assumption)))))) (HF.out.later (by repeat (first | (with_reducible exact Later.refl _) | (with_reducible exact Hid.out (by assumption)) | (with_reducible refine Later.alloc ?_ _) | (with_reducible refine Later.setCell ?_ (by simp; omega) _) | (with_reducible refine Later.setCell ?_ (by simp) _) | (with_reducible refine Later.drewN ?_ _) | (with_reducible refine Later.drew ?_) | (with_reducible refine Later.trans ?_ (Hid.out (by assumption)))))) HB.out p1 p2 n1 n3).mono ?_
      rintro e w3 ⟨v, rfl, ho, hb3⟩
      have O3 := Lib.hid ho
      have W3 : Hid (Later w w3) := Lib.hid ((((Later.refl _).alloc _).trans H2.out).trans hb3)
      have hz2 := H2.out.size
      rw [World.size_alloc] at hz2
      clear ho hb3
      go_wp2_with fail
      go_ret2
      exact ⟨v, by rw [HT.out.2]; rfl, by rw [HT.out.1]; exact O3.out.mono (by omega), W3.out⟩
    · have HT : Hid (ocV L F p q = [] ∧ ocE L F p q = trE L p q) := Lib.hid (by
        have : ocE L F p q = trE L p q := by unfold ocE; rw [hb]; simp
        unfold ocV; rw [this]; simp [he])
      have he0 : (trE L p q != 0) = true := by simpa using he
      clear he
      go_enter Try.func38, Try.ntmps38
      go_wp2_with fail
      refine (s_AreBlocks a n cap L A m capF F _ (HS.out.later (by repeat (first | (with_reducible exact Later.refl _) | (with_reducible exact Hid.out (by assumption)) | (with_reducible refine Later.alloc ?_ _) | (with_reducible refine Later.setCell ?_ (by simp; omega) _) | (with_reducible refine Later.setCell ?_ (by simp) _) | (with_reducible refine Later.drewN ?_ _) | (with_reducible refine Later.drew ?_) | (with_reducible refine Later.trans ?_ (Hid.out (by assumption)))))) (HF.out.later (by repeat (first | (with_reducible exact Later.refl _) | (with_reducible exact Hid.out (by assumption)) | (with_reducible refine Later.alloc ?_ _) | (with_reducible refine Later.setCell ?_ (by simp; omega) _) | (with_reducible refine Later.setCell ?_ (by simp) _) | (with_reducible refine Later.drewN ?_ _) | (with_reducible refine Later.drew ?_) | (with_reducible refine Later.trans ?_ (Hid.out (by assumption))))))).mono ?_
      rw [hb]
      rintro e w1 ⟨rfl, hb1⟩
      have c1 := KB.out w1 hb1
      have H1 := Lib.hid hb1
      clear hb1
      go_wp2_with fail
      refine (s_l05Train a n cap L p q _ (HS.out.later (by repeat (first | (with_reducible exact Later.refl _) | (with_reducible exact Hid.out (by assumption)) | (with_reducible refine Later.alloc ?_ _) | (with_reducible refine Later.setCell ?_ (by simp; omega) _) | (with_reducible refine Later.setCell ?_ (by simp) _) | (with_reducible refine Later.drewN ?_ _) | (with_reducible refine Later.drew ?_) | (with_reducible refine Later.trans ?_ (Hid.out (by assumption))))))).mono ?_
      rintro e w2 ⟨rfl, hb2⟩
      have H2 := Lib.hid (H1.out.trans hb2)
      clear hb2 c1 H1
      go_wp2_with fail
      go_ret2
      exact ⟨.slice none 0 0, by rw [HT.out.2]; rfl, by rw [HT.out.1]; exact own_none _ _, (by repeat (first | (with_reducible exact Later.refl _) | (with_reducible exact Hid.out (by assumption)) | (with_reducible refine Later.alloc ?_ _) | (with_reducible refine Later.setCell ?_ (by simp; omega) _) | (with_reducible refine Later.setCell ?_ (by simp) _) | (with_reducible refine Later.drewN ?_ _) | (with_reducible refine Later.drew ?_) | (with_reducible refine Later.trans ?_ (Hid.out (by assumption)))))⟩
end Go.Proofs.Ytehinlecppbjeaa
namespace Go.Proofs.Ytehinlecppbjeaa
open Go.RowKit
set_option maxHeartbeats 4000000
set_option linter.unusedVariables false
set_option linter.unusedSimpArgs false
/-- the loads behind the first i trains and those blocks of the next one that f names -/
def ldQ (L : List Sg) (F P : List Int) (n : Int) (i : Nat) (f : Nat → Bool) : List Int := (List.range F.length).map fun b => ldN L F P n i b + if f b = true then 1 else 0
theorem ldQ_len (L : List Sg) (F P : List Int) (n : Int) (i : Nat) (f : Nat → Bool) : (ldQ L F P n i f).length = F.length := by simp [ldQ]
theorem ldQ_gx (L : List Sg) (F P : List Int) (n : Int) (i : Nat) (f : Nat → Bool) (b : Nat) (hb : b < F.length) : gx (ldQ L F P n i f) b = ldN L F P n i b + if f b = true then 1 else 0 := by
  rw [gx_of _ b (by rw [ldQ_len]; exact hb)]; simp [ldQ]
theorem ldQ_none (L : List Sg) (F P : List Int) (n : Int) (i : Nat) : ldQ L F P n i (fun _ => false) = ldK L F P n i := by
  unfold ldQ ldK; apply List.map_congr_left; intro b _; simp
theorem ldQ_all {L : List Sg} {F P : List Int} {n : Int} {i : Nat} {f : Nat → Bool} (h : ∀ b, b < F.length → f b = ocB L F (gx P i) n b) : ldQ L F P n i f = ldK L F P n (i + 1) := by
  unfold ldQ ldK; apply List.map_congr_left; intro b hb
  rw [ldN_succ, h b (List.mem_range.1 hb)]
theorem ldQ_same {L : List Sg} {F P : List Int} {n : Int} {i : Nat} {f g : Nat → Bool} (h : ∀ b, b < F.length → f b = g b) : ldQ L F P n i f = ldQ L F P n i g := by
  unfold ldQ; apply List.map_congr_left; intro b hb
  rw [h b (List.mem_range.1 hb)]
theorem ldQ_set {L : List Sg} {F P : List Int} {n : Int} {i x : Nat} {f g : Nat → Bool} (hx : x < F.length) (hf : f x = false) (hg : ∀ b, b < F.length → g b = (f b || b == x)) : (ldQ L F P n i f).set x (gx (ldQ L F P n i f) x + 1) = ldQ L F P n i g := by
  rw [ldQ_gx _ _ _ _ _ _ _ hx, hf]
  apply List.ext_getElem?
  intro b
  rw [List.getElem?_set]
  by_cases hb : b < F.length
  · have e1 : (ldQ L F P n i g)[b]? = some (ldN L F P n i b + if g b = true then 1 else 0) := by unfold ldQ; rw [List.getElem?_map, List.getElem?_range hb]; rfl
    have e2 : (ldQ L F P n i f)[b]? = some (ldN L F P n i b + if f b = true then 1 else 0) := by unfold ldQ; rw [List.getElem?_map, List.getElem?_range hb]; rfl
    rw [e1, hg b hb]
    by_cases e : x = b
    · subst e; rw [if_pos rfl, if_pos (by rw [ldQ_len]; exact hx)]; simp
    · rw [if_neg e, e2]
      have : (b == x) = false := by rw [beq_eq_false_iff_ne]; exact fun h => e h.symm
      rw [this, Bool.or_false]
  · rw [List.getElem?_eq_none (by rw [ldQ_len]; omega), if_neg (by omega), List.getElem?_eq_none (by rw [ldQ_len]; omega)]
theorem ldQ_bd (L : List Sg) (F P : List Int) (n : Int) (i : Nat) (f : Nat → Bool) (b : Nat) (hb : b < F.length) : 0 ≤ gx (ldQ L F P n i f) b ∧ gx (ldQ L F P n i f) b ≤ i + 1 := by
  rw [ldQ_gx _ _ _ _ _ _ _ hb]
  have := ldN_bd L F P n i b
  split <;> omega
/-- the first j of the blocks that a train occupies -/
def fstJ (l : List Int) (j : Nat) (b : Nat) : Bool := (l.take j).contains (b : Int)
theorem fstJ_0 (l : List Int) : fstJ l 0 = fun _ => false := by funext b; simp [fstJ]
theorem fstJ_succ (l : List Int) (j : Nat) (hj : j < l.length) (x : Nat) (hx : gx l j = (x : Int)) (b : Nat) : fstJ l (j + 1) b = (fstJ l j b || b == x) := by
  unfold fstJ
  rw [List.take_succ_eq_append_getElem hj, ← gx_of l j hj, hx, Bool.eq_iff_iff]
  simp
  constructor
  · rintro (h | h)
    · exact .inl h
    · exact .inr (by omega)
  · rintro (h | h)
    · exact .inl h
    · exact .inr (by omega)
theorem fstJ_no {l : List Int} (hn : l.Nodup) {j : Nat} (hj : j < l.length) {x : Nat} (hx : gx l j = (x : Int)) : fstJ l j x = false := by
  unfold fstJ
  rw [Bool.eq_false_iff]
  intro h
  have h := List.contains_iff_mem.1 h
  obtain ⟨i, hi, e⟩ := List.mem_iff_getElem.1 h
  rw [List.length_take] at hi
  rw [List.getElem_take] at e
  rw [gx_of l j hj] at hx
  exact (List.pairwise_iff_getElem.1 hn) i j (by omega) hj (by omega) (e.trans hx.symm)
theorem fstJ_all {L : List Sg} {F : List Int} {p n : Int} {b : Nat} (hb : b < F.length) : fstJ (ocK L F p n F.length) (ocK L F p n F.length).length b = ocB L F p n b := by
  unfold fstJ
  rw [List.take_length, Bool.eq_iff_iff, List.contains_iff_mem, ocK_mem]
  constructor
  · rintro ⟨c, e, _, h⟩; have : b = c := by omega
    rw [this]; exact h
  · intro h; exact ⟨b, rfl, hb, h⟩
theorem ocK_nodup' (L : List Sg) (F : List Int) (p q : Int) (k : Nat) : (ocK L F p q k).Nodup := by
  unfold ocK
  unfold List.Nodup
  rw [List.pairwise_map]
  refine List.Pairwise.filter _ ?_
  exact List.pairwise_lt_range.imp (fun h => by omega)
theorem Own.set {w : World} {base g n cap : Nat} {l : List Int} (h : Own w base (.slice (some ⟨g, 0, none⟩) n cap) l) (hl : l.length = n) (k : Nat) (x : Int) (hx : InR x) : Own (w.setCell ⟨g, k, none⟩ (.int .i64 x)) base (.slice (some ⟨g, 0, none⟩) n cap) (l.set k x) := by
  subst hl
  refine ⟨?_, fun y hy => ?_⟩
  · rw [List.length_set, List.map_set]; exact (h.1.stored k _).1
  · rcases List.mem_or_eq_of_mem_set hy with hy | rfl
    · exact h.2 y hy
    · exact hx
theorem Own.cellAt {w : World} {base g n cap : Nat} {l : List Int} (h : Own w base (.slice (some ⟨g, 0, none⟩) n cap) l) (hl : l.length = n) (k : Nat) (hk : k < l.length) : w.cell? ⟨g, k, none⟩ = some (.int .i64 (gx l k)) := by
  subst hl
  have h9 := h.1.cellAt k (by rw [Nat.mul_one]; exact hk)
  rw [h9, List.getElem?_map, List.getElem?_eq_getElem hk, ← gx_of l k hk]; rfl
theorem Own.frozenAt {w : World} {base g n cap : Nat} {l : List Int} (h : Own w base (.slice (some ⟨g, 0, none⟩) n cap) l) (hl : l.length = n) (k : Nat) : w.frozen? ⟨g, k, none⟩ = false := by
  subst hl
  exact h.1.frozenAt k
theorem Sl.farO {w : World} {A : Option Addr} {n : Nat} {l : List Int} (h : Sl w A n l) (g j : Nat) (u : Value) (hne : ∀ x, A = some x → x.block ≠ g) : Sl (w.setCell ⟨g, j, none⟩ u) A n l := by
  obtain ⟨h1, h2, h3, h4⟩ := h
  refine ⟨h1, h2, fun k hk => ?_, h4⟩
  obtain ⟨b, off, rfl, hc⟩ := h3 k hk
  exact ⟨b, off, rfl, by rw [World.cell?_setCell_far _ _ _ _ (Ne.symm (hne _ rfl))]; exact hc⟩
theorem Own.rowsO {w : World} {base : Nat} {v : Value} {l : List Int} (h : Own w base v l) : ∃ A cap, v = .slice A l.length cap ∧ Sl w A l.length l ∧ ∀ x, A = some x → base ≤ x.block := h.sl
set_option maxRecDepth 100000 in
theorem s_BlockLoads (a : Option Addr) (n cap : Nat) (L : List Sg) (A : Option Addr) (m capF : Nat) (F : List Int) (aP : Option Addr) (mP capP : Nat) (P : List Int) (q : Int) (w : World) (hs : Sgs w a n L) (hf : Sl w A m F) (hp : Sl w aP mP P) :
    Calls Try.prog 35 #[.agg #[.slice a n cap], .slice A m capF, .slice aP mP capP, .int .i64 q] w (GivesC w (ldV L F P q) (ldE L F P q)) := by
  have HS := Lib.hid hs; have HF := Lib.hid hf; have HM := Lib.hid hf.1; have HP := Lib.hid hp; have HMP := Lib.hid hp.1
  have KB : Hid (∀ W', Later (w.alloc (.cells #[.slice a n cap] 26)) W' → W'.cell? ⟨w.heap.size, 0, none⟩ = some (.slice a n cap)) := Lib.hid (fun W' k => by rw [k.cell (p := ⟨w.heap.size, 0, none⟩) (by simp)]; simp)
  have hmp := hp.2.1
  clear hs hf hp
  cases hb : bkB L F
  · have HT : Hid (ldV L F P q = [] ∧ ldE L F P q = 1) := Lib.hid (by
      have : ldE L F P q = 1 := by unfold ldE; rw [hb]; simp
      unfold ldV; rw [this]; simp)
    go_enter Try.func35, Try.ntmps35
    go_wp2_with fail
    refine (s_AreBlocks a n cap L A m capF F _ (HS.out.later (by repeat (first | (with_reducible exact Later.refl _) | (with_reducible exact Hid.out (by assumption)) | (with_reducible refine Later.alloc ?_ _) | (with_reducible refine Later.setCell ?_ (by simp; omega) _) | (with_reducible refine Later.setCell ?_ (by simp) _) | (with_reducible refine Later.drewN ?_ _) | (with_reducible refine Later.drew ?_) | (with_reducible refine Later.trans ?_ (Hid.out (by assumption)))))) (HF.out.later (by repeat (first | (with_reducible exact Later.refl _) | (with_reducible exact Hid.out (by assumption)) | (with_reducible refine Later.alloc ?_ _) | (with_reducible refine Later.setCell ?_ (by simp; omega) _) | (with_reducible refine Later.setCell ?_ (by simp) _) | (with_reducible refine Later.drewN ?_ _) | (with_reducible refine Later.drew ?_) | (with_reducible refine Later.trans ?_ (Hid.out (by assumption))))))).mono ?_
    rw [hb]
    rintro e w1 ⟨rfl, hb1⟩
    have H1 := Lib.hid hb1
    clear hb1
    go_wp2_with fail
    go_ret2
    exact ⟨.slice none 0 0, by rw [HT.out.2]; rfl, by rw [HT.out.1]; exact own_none _ _, (by repeat (first | (with_reducible exact Later.refl _) | (with_reducible exact Hid.out (by assumption)) | (with_reducible refine Later.alloc ?_ _) | (with_reducible refine Later.setCell ?_ (by simp; omega) _) | (with_reducible refine Later.setCell ?_ (by simp) _) | (with_reducible refine Later.drewN ?_ _) | (with_reducible refine Later.drew ?_) | (with_reducible refine Later.trans ?_ (Hid.out (by assumption)))))⟩
  have HB := Lib.hid hb
  have hv := (bkB_lay hb).1
  have HV := Lib.hid hv
  have hm8 : m ≤ 8 := by have := ((bkC_iff L F).1 (bkB_lay hb).2).2.1; rw [HM.out] at this; exact this
  by_cases h4 : 4 < mP
  · have HT : Hid (ldV L F P q = [] ∧ ldE L F P q = 3) := Lib.hid (by
      have : ldE L F P q = 3 := by unfold ldE; rw [hb, if_pos rfl, if_neg (by rw [HMP.out]; omega)]
      unfold ldV; rw [this]; simp)
    clear hv
    go_enter Try.func35, Try.ntmps35
    go_wp2_with fail
    refine (s_AreBlocks a n cap L A m capF F _ (HS.out.later (by repeat (first | (with_reducible exact Later.refl _) | (with_reducible exact Hid.out (by assumption)) | (with_reducible refine Later.alloc ?_ _) | (with_reducible refine Later.setCell ?_ (by simp; omega) _) | (with_reducible refine Later.setCell ?_ (by simp) _) | (with_reducible refine Later.drewN ?_ _) | (with_reducible refine Later.drew ?_) | (with_reducible refine Later.trans ?_ (Hid.out (by assumption)))))) (HF.out.later (by repeat (first | (with_reducible exact Later.refl _) | (with_reducible exact Hid.out (by assumption)) | (with_reducible refine Later.alloc ?_ _) | (with_reducible refine Later.setCell ?_ (by simp; omega) _) | (with_reducible refine Later.setCell ?_ (by simp) _) | (with_reducible refine Later.drewN ?_ _) | (with_reducible refine Later.drew ?_) | (with_reducible refine Later.trans ?_ (Hid.out (by assumption))))))).mono ?_
    rw [hb]
    rintro e w1 ⟨rfl, hb1⟩
    have H1 := Lib.hid hb1
    clear hb1
    go_wp2_with fail
    go_ret2
    exact ⟨.slice none 0 0, by rw [HT.out.2]; rfl, by rw [HT.out.1]; exact own_none _ _, (by repeat (first | (with_reducible exact Later.refl _) | (with_reducible exact Hid.out (by assumption)) | (with_reducible refine Later.alloc ?_ _) | (with_reducible refine Later.setCell ?_ (by simp; omega) _) | (with_reducible refine Later.setCell ?_ (by simp) _) | (with_reducible refine Later.drewN ?_ _) | (with_reducible refine Later.drew ?_) | (with_reducible refine Later.trans ?_ (Hid.out (by assumption)))))⟩
  cases ht : trsB (totL L) q P
  · have HT : Hid (ldV L F P q = [] ∧ ldE L F P q = 2) := Lib.hid (by
      have : ldE L F P q = 2 := by unfold ldE; rw [hb, if_pos rfl, if_pos (by rw [HMP.out]; omega), ht]; simp
      unfold ldV; rw [this]; simp)
    clear hv
    go_enter Try.func35, Try.ntmps35
    go_wp2_with fail
    refine (s_AreBlocks a n cap L A m capF F _ (HS.out.later (by repeat (first | (with_reducible exact Later.refl _) | (with_reducible exact Hid.out (by assumption)) | (with_reducible refine Later.alloc ?_ _) | (with_reducible refine Later.setCell ?_ (by simp; omega) _) | (with_reducible refine Later.setCell ?_ (by simp) _) | (with_reducible refine Later.drewN ?_ _) | (with_reducible refine Later.drew ?_) | (with_reducible refine Later.trans ?_ (Hid.out (by assumption)))))) (HF.out.later (by repeat (first | (with_reducible exact Later.refl _) | (with_reducible exact Hid.out (by assumption)) | (with_reducible refine Later.alloc ?_ _) | (with_reducible refine Later.setCell ?_ (by simp; omega) _) | (with_reducible refine Later.setCell ?_ (by simp) _) | (with_reducible refine Later.drewN ?_ _) | (with_reducible refine Later.drew ?_) | (with_reducible refine Later.trans ?_ (Hid.out (by assumption))))))).mono ?_
    rw [hb]
    rintro e w1 ⟨rfl, hb1⟩
    have c1 := KB.out w1 hb1
    have H1 := Lib.hid hb1
    clear hb1
    go_wp2_with fail
    refine (s_l05Fronts a n cap L aP mP capP P q _ (HS.out.later (by repeat (first | (with_reducible exact Later.refl _) | (with_reducible exact Hid.out (by assumption)) | (with_reducible refine Later.alloc ?_ _) | (with_reducible refine Later.setCell ?_ (by simp; omega) _) | (with_reducible refine Later.setCell ?_ (by simp) _) | (with_reducible refine Later.drewN ?_ _) | (with_reducible refine Later.drew ?_) | (with_reducible refine Later.trans ?_ (Hid.out (by assumption)))))) (sl_lat HP.out (by repeat (first | (with_reducible exact Later.refl _) | (with_reducible exact Hid.out (by assumption)) | (with_reducible refine Later.alloc ?_ _) | (with_reducible refine Later.setCell ?_ (by simp; omega) _) | (with_reducible refine Later.setCell ?_ (by simp) _) | (with_reducible refine Later.drewN ?_ _) | (with_reducible refine Later.drew ?_) | (with_reducible refine Later.trans ?_ (Hid.out (by assumption)))))) HV.out).mono ?_
    rw [ht]
    rintro e w2 ⟨rfl, hb2⟩
    have H2 := Lib.hid hb2
    clear hb2
    go_wp2_with fail
    go_ret2
    exact ⟨.slice none 0 0, by rw [HT.out.2]; rfl, by rw [HT.out.1]; exact own_none _ _, (by repeat (first | (with_reducible exact Later.refl _) | (with_reducible exact Hid.out (by assumption)) | (with_reducible refine Later.alloc ?_ _) | (with_reducible refine Later.setCell ?_ (by simp; omega) _) | (with_reducible refine Later.setCell ?_ (by simp) _) | (with_reducible refine Later.drewN ?_ _) | (with_reducible refine Later.drew ?_) | (with_reducible refine Later.trans ?_ (Hid.out (by assumption)))))⟩
  · have HT : Hid (ldV L F P q = ldK L F P q mP ∧ ldE L F P q = 0) := Lib.hid (by
      have : ldE L F P q = 0 := by unfold ldE; rw [hb, if_pos rfl, if_pos (by rw [HMP.out]; omega), ht]; simp
      unfold ldV; rw [this, HMP.out]; simp)
    have h3 := ht
    unfold trsB at h3
    rw [Bool.and_eq_true] at h3
    obtain ⟨n1, n2, n3⟩ := (isN_iff _ _).1 h3.1
    have HAL : Hid (∀ k, k < mP → 0 ≤ gx P k ∧ gx P k < totL L) := Lib.hid (fun k hk => allP_at h3.2 k (by rw [HMP.out]; exact hk))
    have K0 : Hid (ldK L F P q 0 = List.replicate m 0) := Lib.hid (by unfold ldK; rw [HM.out, List.map_congr_left (g := fun _ => (0 : Int)) (fun b _ => ldN_0 L F P q b)]; simp [List.map_const'])
    obtain ⟨i0, hi, hz0, hz1, hz2⟩ := info_parts info_i64
    have HI := Lib.hid hi; clear hi
    have HZ0 := Lib.hid hz0; clear hz0
    have HZ1 := Lib.hid hz1; clear hz1
    have HZ2 := Lib.hid hz2; clear hz2
    clear hv h3
    go_enter Try.func35, Try.ntmps35
    go_wp2_with fail
    refine (s_AreBlocks a n cap L A m capF F _ (HS.out.later (by repeat (first | (with_reducible exact Later.refl _) | (with_reducible exact Hid.out (by assumption)) | (with_reducible refine Later.alloc ?_ _) | (with_reducible refine Later.setCell ?_ (by simp; omega) _) | (with_reducible refine Later.setCell ?_ (by simp) _) | (with_reducible refine Later.drewN ?_ _) | (with_reducible refine Later.drew ?_) | (with_reducible refine Later.trans ?_ (Hid.out (by assumption)))))) (HF.out.later (by repeat (first | (with_reducible exact Later.refl _) | (with_reducible exact Hid.out (by assumption)) | (with_reducible refine Later.alloc ?_ _) | (with_reducible refine Later.setCell ?_ (by simp; omega) _) | (with_reducible refine Later.setCell ?_ (by simp) _) | (with_reducible refine Later.drewN ?_ _) | (with_reducible refine Later.drew ?_) | (with_reducible refine Later.trans ?_ (Hid.out (by assumption))))))).mono ?_
    rw [hb]
    rintro e w1 ⟨rfl, hb1⟩
    have c1 := KB.out w1 hb1
    have H1 := Lib.hid hb1
    clear hb1
    go_wp2_with fail
    refine (s_l05Fronts a n cap L aP mP capP P q _ (HS.out.later (by repeat (first | (with_reducible exact Later.refl _) | (with_reducible exact Hid.out (by assumption)) | (with_reducible refine Later.alloc ?_ _) | (with_reducible refine Later.setCell ?_ (by simp; omega) _) | (with_reducible refine Later.setCell ?_ (by simp) _) | (with_reducible refine Later.drewN ?_ _) | (with_reducible refine Later.drew ?_) | (with_reducible refine Later.trans ?_ (Hid.out (by assumption)))))) (sl_lat HP.out (by repeat (first | (with_reducible exact Later.refl _) | (with_reducible exact Hid.out (by assumption)) | (with_reducible refine Later.alloc ?_ _) | (with_reducible refine Later.setCell ?_ (by simp; omega) _) | (with_reducible refine Later.setCell ?_ (by simp) _) | (with_reducible refine Later.drewN ?_ _) | (with_reducible refine Later.drew ?_) | (with_reducible refine Later.trans ?_ (Hid.out (by assumption)))))) HV.out).mono ?_
    rw [ht]
    rintro e w2 ⟨rfl, hb2⟩
    have H2 : Hid (Later (w.alloc (.cells #[.slice a n cap] 26)) w2) := Lib.hid (H1.out.trans hb2)
    clear hb2 c1 ht hb
    go_wp2_with (at_make; go_must (refine wpList_make_full _ rfl _ _ _ rfl w2.heap.size 2 i0 (.int .i64 0) 1 Try.underlying38 HI.out HZ0.out HZ1.out _ _ _ _ m rfl rfl (by omega) (by omega) (by rw [HZ2.out]; omega) (by unfold maxLen; omega) (Nat.le_refl _) ?_; intro w3 hown hgrow; have c11 : True := trivial))
    have O3 : Hid (Own w3 w2.heap.size (.slice (some ⟨w2.heap.size, 0, none⟩) m m) (ldK L F P q 0)) := Lib.hid (by
      rw [K0.out]
      refine ⟨?_, fun x hx => by rw [List.eq_of_mem_replicate hx]; exact ⟨by omega, by omega⟩⟩
      have := toList_madeCells_one (.int .i64 0) m
      simpa [Value.cells, this] using hown)
    have Z3 : Hid (Later w2 w3) := Lib.hid ((Below.refl _ _).grown hgrow (Nat.le_refl _) (by simp))
    clear hown hgrow c11
    go_loopw [11] (fun i wr => ∃ k : Nat, k ≤ mP ∧ i = .int .i64 k ∧ Own wr w2.heap.size (.slice (some ⟨w2.heap.size, 0, none⟩) m m) (ldK L F P q k) ∧ Later w2 wr) (fun i _ => mP - (intOf i).toNat)
    case atStart => exact ⟨0, by omega, rfl, O3.out, Z3.out⟩
    case round =>
      obtain ⟨k, hk, rfl, ho, hlw⟩ := hrel
      have O4 := Lib.hid ho
      have HW2 := Lib.hid hlw
      have HW : Hid (Later w wr) := Lib.hid ((((Later.refl _).alloc _).trans H2.out).trans hlw)
      have cb := KB.out wr (H2.out.trans hlw)
      clear ho hlw
      by_cases hlt : k < mP
      · obtain ⟨bP, oP, rfl, cP⟩ := (sl_lat HP.out HW.out).at k hlt
        obtain ⟨g0, g1⟩ := HAL.out k hlt
        have KK : Hid (∀ W', Later wr W' → W'.cell? ⟨w.heap.size, 0, none⟩ = some (.slice a n cap) ∧ W'.cell? ⟨bP, oP + k, none⟩ = some (.int .i64 (gx P k))) := Lib.hid (fun W' j => ⟨by rw [j.cell (p := ⟨w.heap.size, 0, none⟩) (cell_lt cb)]; exact cb, by rw [j.cell (p := ⟨bP, oP + k, none⟩) (cell_lt cP)]; exact cP⟩)
        go_wp2_with fail
        go_region_held3 (fun w' => w'.cell? ⟨w.heap.size, 0, none⟩ = some (.slice a n cap) ∧ w'.cell? ⟨bP, oP + k, none⟩ = some (.int .i64 (gx P k))) ((refine KK.out _ ?_; ((repeat (first | (with_reducible exact Later.refl _) | (with_reducible exact Hid.out (by assumption)) | (with_reducible refine Later.alloc ?_ _) | (with_reducible refine Later.setCell ?_ (by simp; omega) _) | (with_reducible refine Later.setCell ?_ (by simp) _) | (with_reducible refine Later.drewN ?_ _) | (with_reducible refine Later.drew ?_) | (with_reducible refine Later.trans ?_ (Hid.out (by assumption))))); done)))
          ((go_at_call 90; refine (s_l05Blocks a n cap L A m capF F (gx P k) q _ (HS.out.later (by repeat (first | (with_reducible exact Later.refl _) | (with_reducible exact Hid.out (by assumption)) | (with_reducible refine Later.alloc ?_ _) | (with_reducible refine Later.setCell ?_ (by simp; omega) _) | (with_reducible refine Later.setCell ?_ (by simp) _) | (with_reducible refine Later.drewN ?_ _) | (with_reducible refine Later.drew ?_) | (with_reducible refine Later.trans ?_ (Hid.out (by assumption)))))) (HF.out.later (by repeat (first | (with_reducible exact Later.refl _) | (with_reducible exact Hid.out (by assumption)) | (with_reducible refine Later.alloc ?_ _) | (with_reducible refine Later.setCell ?_ (by simp; omega) _) | (with_reducible refine Later.setCell ?_ (by simp) _) | (with_reducible refine Later.drewN ?_ _) | (with_reducible refine Later.drew ?_) | (with_reducible refine Later.trans ?_ (Hid.out (by assumption)))))) HB.out g0 g1 n1 n3).mono ?_; rintro e w4 ⟨v, rfl, hol, hb4⟩; have OL := Lib.hid hol; have H4 := Lib.hid hb4; clear hol hb4))
        all_goals
          have L4 : Later wr w4 := Later.trans (Later.refl _).drew H4.out
          have O5 := Lib.hid (O4.out.lat L4)
          obtain ⟨aB, kB, rfl, slB, hbB⟩ := OL.out.rowsO
          have NB : Hid (∀ x, aB = some x → x.block ≠ w2.heap.size) := Lib.hid (fun x hx => by
            have h1 := hbB x hx
            have h2 := (Later.refl wr).drew.size
            have h3 := (O4.out.1.lt w2.heap.size rfl).2
            omega)
          have SB := Lib.hid slB
          have HW4 := Lib.hid (HW2.out.trans L4)
          have HOM : Hid (∀ x ∈ ocK L F (gx P k) q m, ∃ b : Nat, x = (b : Int) ∧ b < m) := Lib.hid (fun x hx => by obtain ⟨b, e, hb, _⟩ := (ocK_mem _ _ _ _ _ _).1 hx; exact ⟨b, e, hb⟩)
          have HND := Lib.hid (ocK_nodup' L F (gx P k) q m)
          have HAL2 : Hid (∀ b, b < F.length → fstJ (ocK L F (gx P k) q m) (ocK L F (gx P k) q m).length b = ocB L F (gx P k) q b) := Lib.hid (fun b hb => by have := fstJ_all (L := L) (F := F) (p := gx P k) (n := q) hb; rw [HM.out] at this; exact this)
          have hlen := ocK_len L F (gx P k) q m
          obtain ⟨l, hl⟩ : ∃ l, l = ocK L F (gx P k) q m := ⟨_, rfl⟩
          rw [← hl] at SB HOM HND HAL2 hlen ⊢
          clear OL H4 slB hbB L4 hl KK cb cP
          go_wp2_with fail
          go_loopw [13] (fun j wx => ∃ jn : Nat, jn ≤ l.length ∧ j = .int .i64 jn ∧ Own wx w2.heap.size (.slice (some ⟨w2.heap.size, 0, none⟩) m m) (ldQ L F P q k (fstJ l jn)) ∧ Sl wx aB l.length l ∧ Later w2 wx) (fun j _ => l.length - (intOf j).toNat)
          case atStart => exact ⟨0, by omega, rfl, by rw [fstJ_0, ldQ_none]; exact O5.out, SB.out, HW4.out⟩
          case round =>
            obtain ⟨wx, rfl⟩ : ∃ wx, wx = wr := ⟨_, rfl⟩
            obtain ⟨jn, hj, rfl, ho, hs, hw⟩ := hrel
            have O6 := Lib.hid ho
            have S6 := Lib.hid hs
            have HW6 := Lib.hid hw
            clear ho hs hw
            by_cases hjl : jn < l.length
            · obtain ⟨bB, oB, rfl, cB⟩ := S6.out.at jn hjl
              obtain ⟨x, hx, hxm⟩ := HOM.out (gx l jn) (gx_mem l jn hjl)
              have HX := Lib.hid hx
              rw [hx] at cB
              have hxF : x < F.length := by rw [HM.out]; exact hxm
              have HXF := Lib.hid hxF
              obtain ⟨v0, v1⟩ := ldQ_bd L F P q k (fstJ l jn) x hxF
              have cR := O6.out.cellAt (by rw [ldQ_len]; exact HM.out) x (by rw [ldQ_len]; exact hxF)
              have fR : wx.frozen? ⟨w2.heap.size, x, none⟩ = false := O6.out.frozenAt (by rw [ldQ_len]; exact HM.out) x
              have HSET := Lib.hid (ldQ_set (L := L) (P := P) (n := q) (i := k) hxF (fstJ_no HND.out hjl hx) (fun b _ => fstJ_succ l jn hjl x hx b))
              obtain ⟨y, hy⟩ : ∃ y, y = gx (ldQ L F P q k (fstJ l jn)) x := ⟨_, rfl⟩
              rw [← hy] at v0 v1 cR HSET
              clear hy hx hxF
              go_wp2_with fail
              go_roundw
              case rel => exact ⟨jn + 1, by omega, by go_num, by rw [← HSET.out]; exact O6.out.set (by rw [ldQ_len]; exact HM.out) x (y + 1) ⟨by omega, by omega⟩, S6.out.farO _ _ _ NB.out, HW6.out.setCell (p := ⟨w2.heap.size, x, none⟩) (Nat.le_refl _) _⟩
              case measure => simp [intOf]; omega
            · obtain rfl : jn = l.length := by omega
              go_wp2_with fail
              go_roundw
              case rel => exact ⟨k + 1, by omega, by go_num, by rw [← ldQ_all HAL2.out]; exact O6.out, HW6.out⟩
              case measure => simp [intOf]; omega
      · obtain rfl : k = mP := by omega
        go_wp2
        go_ret2
        exact ⟨_, by rw [HT.out.2]; rfl, by rw [HT.out.1]; exact O4.out.mono (by have := H2.out.size; rw [World.size_alloc] at this; omega), HW.out⟩
end Go.Proofs.Ytehinlecppbjeaa
namespace Go.Proofs.Ytehinlecppbjeaa
open Go.RowKit Go.Shelf
attribute [local go_sem] Oper.semAt_some
set_option maxHeartbeats 4000000
set_option linter.unusedVariables false
set_option linter.unusedSimpArgs false
/-- a block within the bounds of all blocks -/
def okSc (x : Sc) : Prop := (0 ≤ x.n ∧ x.n ≤ 1000) ∧ (0 ≤ x.s ∧ x.s ≤ 100000000) ∧ 0 ≤ x.e ∧ x.e ≤ 100000000
abbrev ScB := { x : Sc // okSc x }
instance (x : Sc) : Decidable (okSc x) := by unfold okSc; infer_instance
def secB (L : List Sg) (F : List Int) (k : Nat) : ScB := if h : okSc (sec L F k) then ⟨sec L F k, h⟩ else ⟨sc0, by unfold okSc sc0; simp⟩
theorem secB_eq {L : List Sg} {F : List Int} (h : bkB L F = true) {k : Nat} (hk : k < F.length) : (secB L F k).1 = sec L F k := by
  have a := blk_at h k hk
  have t := tot_bd (bkB_lay h).1
  have m := (bkC_iff L F).1 (bkB_lay h).2
  have ok : okSc (sec L F k) := by unfold okSc sec; simp only; omega
  unfold secB; rw [dif_pos ok]
def uptoB (L : List Sg) (F : List Int) (k : Nat) : List ScB := (List.range k).map (secB L F)
theorem uptoB_succ (L : List Sg) (F : List Int) (k : Nat) : uptoB L F (k + 1) = uptoB L F k ++ [secB L F k] := by simp [uptoB, List.range_succ]
theorem uptoB_len (L : List Sg) (F : List Int) (k : Nat) : (uptoB L F k).length = k := by simp [uptoB]
theorem uptoB_pre (L : List Sg) (F : List Int) (k m : Nat) (h : k ≤ m) : uptoB L F k <+: uptoB L F m := by
  unfold uptoB
  refine List.IsPrefix.map _ ?_
  refine ⟨(List.range (m - k)).map (k + ·), ?_⟩
  rw [← List.range_add]; congr 1; omega
/-- below n0 all but block ob lies as it lay -/
def KB (n0 ob : Nat) (A B : World) : Prop := A.heap.size ≤ B.heap.size ∧ ∀ i, i < n0 → i ≠ ob → B.heap[i]? = A.heap[i]?
theorem KB.refl (n0 ob : Nat) (A : World) : KB n0 ob A A := ⟨Nat.le_refl _, fun _ _ _ => rfl⟩
theorem KB.trans {n0 ob : Nat} {A B C : World} (h : KB n0 ob A B) (k : KB n0 ob B C) : KB n0 ob A C := ⟨Nat.le_trans h.1 k.1, fun i hi hb => (k.2 i hi hb).trans (h.2 i hi hb)⟩
theorem KB.of_later {n0 ob : Nat} {A B : World} (h : Later A B) (hn : n0 ≤ A.heap.size) : KB n0 ob A B := ⟨h.size, fun i hi _ => h.block i (by omega)⟩
theorem KB.of_below {n0 ob : Nat} {A B : World} (h : Below n0 A B) : KB n0 ob A B := ⟨h.size, fun i hi _ => h.block i hi⟩
theorem KB.of_grown {n0 ob : Nat} {A B : World} {row : Option Nat} (h : A.grownBy B row) (hr : ∀ k, row = some k → k = ob ∨ n0 ≤ k) (hn : n0 ≤ A.heap.size) : KB n0 ob A B :=
  ⟨h.size, fun i hi hb => h.block i (by omega) (fun e => by rcases hr i e.symm with h | h <;> omega)⟩
theorem KB.later {w B C : World} {ob : Nat} (h : KB w.heap.size ob w B) (k : Later B C) : KB w.heap.size ob w C := h.trans (KB.of_later k h.1)
theorem KB.cell {n0 ob : Nat} {A B : World} (h : KB n0 ob A B) {b o : Nat} (hb : b < n0) (hne : b ≠ ob) : B.cell? ⟨b, o, none⟩ = A.cell? ⟨b, o, none⟩ := by
  unfold World.cell?; rw [show B.heap[b]? = A.heap[b]? from h.2 b hb hne]
theorem kb_t {n0 ob : Nat} {A B C : World} (h : KB n0 ob A B) (k : KB n0 ob B C) : KB n0 ob A C := h.trans k
theorem kb_b {n0 ob : Nat} {w : World} (hn : n0 ≤ w.heap.size) (W : World) (l : Nat) (o o' : Obj) (hl : w.heap.size ≤ l) (h : W.heap[l]? = some o) (_ : o.isCells = false) (_ : o.isWalk = false) : KB n0 ob W (W.putObj l o') :=
  KB.of_below (belowK_b hn W l o o' hl h (by assumption) (by assumption))
/-- block ob is none of those that are read -/
structure NotIn (ob Bf Bl : Nat) (a A : Option Addr) : Prop where
  bf : Bf ≠ ob
  bl : Bl ≠ ob
  sg : ∀ x, a = some x → x.block ≠ ob
  sl : ∀ x, A = some x → x.block ≠ ob
theorem Sgs.kb {w W : World} {ob : Nat} {a : Option Addr} {n : Nat} {L : List Sg} (h : Sgs w a n L) (k : KB w.heap.size ob w W) (hne : ∀ x, a = some x → x.block ≠ ob) : Sgs W a n L := by
  obtain ⟨h1, h2, h3, h4⟩ := h
  refine ⟨h1, h2, fun i hi => ?_, h4⟩
  obtain ⟨b, off, e, hcl⟩ := h3 i hi
  refine ⟨b, off, e, fun j hj => ?_⟩
  have hc := hcl j hj
  rw [k.cell (cell_lt hc) (hne _ e)]; exact hc
theorem Sl.kb {w W : World} {ob : Nat} {A : Option Addr} {n : Nat} {l : List Int} (h : Sl w A n l) (k : KB w.heap.size ob w W) (hne : ∀ x, A = some x → x.block ≠ ob) : Sl W A n l := by
  obtain ⟨h1, h2, h3, h4⟩ := h
  refine ⟨h1, h2, fun i hi => ?_, h4⟩
  obtain ⟨b, off, e, hc⟩ := h3 i hi
  exact ⟨b, off, e, by rw [k.cell (cell_lt hc) (hne _ e)]; exact hc⟩
theorem Boxes.kb {w W : World} {ob Bf Bl : Nat} {a : Option Addr} {n cap : Nat} {L : List Sg} {A : Option Addr} {m capF : Nat} {F : List Int} (h : Boxes w Bf Bl a n cap L A m capF F) (k : KB w.heap.size ob w W) (hne : NotIn ob Bf Bl a A) : Boxes W Bf Bl a n cap L A m capF F :=
  ⟨by rw [k.cell (cell_lt h.bf) hne.bf]; exact h.bf, by rw [k.cell (cell_lt h.bl) hne.bl]; exact h.bl, h.sg.kb k hne.sg, h.sl.kb k hne.sl, h.cn, h.cm, h.ok⟩
set_option maxRecDepth 100000 in
theorem i_secs_inB (Φ : Fence) (N : Nat) (hΦ : Φ.fn 146) (hro : Φ.round = none) (hN : 1 ≤ N) (l Bf Bl : Nat) (a : Option Addr) (n cap : Nat) (L : List Sg) (A : Option Addr) (m capF : Nat) (F : List Int) (w : World) (J Jx : List ScB → World → Prop) (W : World) (hBx : Boxes w Bf Bl a n cap L A m capF F) (ob : Nat) (hne : NotIn ob Bf Bl a A)
    (hW : KB w.heap.size ob w W) (hJ : AbidesFrom W.heap.size J)
    (hY : ∀ pre x W1, J pre W1 → pre.length < m → YieldAt Φ (N - 1) Try.prog l #[scV x.1] W1 fun e W' =>
      (e = .returned (.bool true) ∧ J (pre ++ [x]) W' ∧ KB w.heap.size ob W1 W') ∨ (e = .returned (.bool false) ∧ Jx (pre ++ [x]) W')) (h0 : J [] W) :
    CallsIn Φ N Try.prog 146 #[.func (.yield l) #[] #[], .pointer (some ⟨Bf, 0, none⟩), .pointer (some ⟨Bl, 0, none⟩)] W fun e W' => (∃ v, e = .returned v) ∧
      ((∃ ys, ys = uptoB L F m ∧ J ys W') ∨ (∃ pre, pre <+: uptoB L F m ∧ Jx pre W')) := by
  have HX := Lib.hid hBx
  have HNE := Lib.hid hne
  have HBX := Lib.hid hBx.ok
  obtain ⟨hlay, hbk⟩ := bkB_lay hBx.ok
  have HBK := Lib.hid hbk
  have HL := Lib.hid hBx.sg.1
  have HM := Lib.hid hBx.sl.1
  have HO := Lib.hid ((layB_iff L).1 hlay).2.2.1
  have h24 : n ≤ 24 := by have := ((layB_iff L).1 hlay).2.1; rw [HL.out] at this; exact this
  have hm8 : 2 ≤ m ∧ m ≤ 8 := by have := (bkC_iff L F).1 hbk; rw [HM.out] at this; omega
  obtain ⟨hm2, hm8⟩ := hm8
  have HJ := Lib.hid hJ
  have HW0 := Lib.hid hW
  have c1 := (hBx.kb hW hne).bf
  clear hBx hbk hJ hW hne
  refine callsIn_of_wp Try.func146 rfl hΦ ?_ hro
  simp only [Try.ntmps146, List.size_toArray, List.length_cons, List.length_nil, Nat.reduceAdd, Nat.reduceSub, Array.replicate_succ, Array.replicate_zero, List.push_toArray, List.append_toArray, List.nil_append, List.cons_append]
  gi_wp2
  clear c1
  gi_loopw [4, 13] (fun st i wr => ∃ k : Nat, k ≤ m ∧ i = .int .i64 k ∧ st = .int .i64 (upL L (bgK L F k)) ∧ J (uptoB L F k) wr ∧ KB w.heap.size ob w wr) (fun _ i _ => m - (intOf i).toNat)
  case atStart => exact ⟨0, by omega, rfl, by rw [bgK_lt (by rw [HM.out]; omega), fst_0 HBK.out, upL_0], h0, HW0.out⟩
  case round =>
    obtain ⟨k, hk, rfl, rfl, hj, hlw⟩ := hrel
    obtain ⟨V, rfl⟩ : ∃ V, V = wr := ⟨_, rfl⟩
    have HJ1 := Lib.hid hj
    have HW := Lib.hid hlw
    have hB := HX.out.kb hlw HNE.out
    have cf := hB.bf; have cl := hB.bl
    have hcn := hB.cn
    clear hj hlw
    by_cases hlt : k < m
    · obtain ⟨g1, g2, g3⟩ := blk_bd HBK.out k (by rw [HM.out]; exact hlt)
      rw [endK_bg, ← bgK_lt (L := L) (F := F) (by rw [HM.out]; exact hlt)] at g2
      rw [endK_bg, HL.out] at g3
      obtain ⟨bF, oF, rfl, ck⟩ := hB.sl.at k hlt
      rw [g1, ← bgK_lt (L := L) (F := F) (by rw [HM.out]; exact hlt)] at ck
      obtain ⟨b0, o0, rfl, hb0, _⟩ := hB.sg.at 0 (by omega)
      have HE : Hid (gx F (k + 1) = (bgK L F (k + 1) : Int) ∨ m ≤ k + 1) := Lib.hid (by
        by_cases hc : k + 1 < m
        · left; rw [bgK_lt (by rw [HM.out]; exact hc)]; exact (blk_bd HBK.out (k + 1) (by rw [HM.out]; exact hc)).1
        · right; omega)
      have HN : Hid (m ≤ k + 1 → bgK L F (k + 1) = n) := Lib.hid (fun h => by unfold bgK; rw [if_neg (by rw [HM.out]; omega), HL.out])
      have HSEC : Hid (scV (secB L F k).1 = .agg #[.int .i64 k, .int .i64 (bgK L F k), .int .i64 ((bgK L F (k + 1) : Int) - 1), .int .i64 (upL L (bgK L F k)), .int .i64 (upL L (bgK L F (k + 1)) - upL L (bgK L F k))]) := Lib.hid (by
        rw [secB_eq HBX.out (by rw [HM.out]; exact hlt)]; unfold scV sec stK lnK; rw [endK_bg, bgK_lt (L := L) (F := F) (k := k) (by rw [HM.out]; exact hlt)])
      have HUP := Lib.hid (uptoB_succ L F k)
      have HPL : Hid ((uptoB L F k).length = k) := Lib.hid (uptoB_len L F k)
      generalize he : bgK L F (k + 1) = e at *
      generalize hf : bgK L F k = f at *
      have HEQ := Lib.hid he
      clear he hf
      have hfc : 1 ≤ cap - f := by omega
      by_cases hk1 : k + 1 < m
      · obtain ⟨bF', oF', hbb, ck1⟩ := hB.sl.at (k + 1) hk1
        simp only [Option.some.injEq, Addr.mk.injEq, and_true] at hbb
        obtain ⟨rfl, rfl⟩ := hbb
        rw [show gx F (k + 1) = (e : Int) from HE.out.resolve_right (by omega)] at ck1
        have hkm : ((k : Int) + 1 < m) := by omega
        clear hB g1
        gi_wp2
        clear ck ck1 cf cl
        gi_loopw [8, 37] (fun ln i w2 => ∃ j g : Nat, g = f + j ∧ g ≤ e ∧ i = .int .i64 j ∧ ln = .int .i64 (upL L g - upL L f) ∧ Later V w2) (fun _ i _ => e - f - (intOf i).toNat)
        case atStart => exact ⟨0, f, rfl, by omega, rfl, by rw [Int.sub_self], Later.refl _⟩
        case round =>
          obtain ⟨w2, rfl⟩ : ∃ w2, w2 = wr := ⟨_, rfl⟩
          obtain ⟨j, g, hg, hge, rfl, rfl, hl2⟩ := hrel
          have H2 := Lib.hid hl2
          obtain ⟨_, _, bd1, bd2⟩ := up_bd L f (by rw [HL.out]; omega) (okB_le L L.length f (by rw [HL.out]; omega) HO.out)
          obtain ⟨_, _, bd3, bd4⟩ := up_bd L g (by rw [HL.out]; omega) (okB_le L L.length g (by rw [HL.out]; omega) HO.out)
          have bd5 := upL_mono L f g (by omega) (by rw [HL.out]; omega) HO.out
          by_cases hlt2 : g < e
          · obtain ⟨b', o', hbb, hb', hc⟩ := ((HX.out.kb HW.out HNE.out).sg.later hl2).at g (by omega)
            simp only [Option.some.injEq, Addr.mk.injEq, and_true] at hbb
            obtain ⟨rfl, rfl⟩ := hbb
            obtain ⟨c0, c1, c2, c3, c4, c5, c6⟩ := hc
            rw [show o0 + g * 7 = o0 + f * 7 + j * 7 by omega] at c0 c1 c2 c3 c4 c5 c6
            have hjl : j < e - f := by omega
            have HG := Lib.hid hg
            clear hg
            have hr := (sgB_iff _).1 (okB_at L L.length g (Nat.le_refl _) (by rw [HL.out]; omega) HO.out)
            have r1 := hr.2.1.1; have r2 := hr.2.1.2
            clear hr hl2
            gi_wp2
            go_roundw
            case rel => exact ⟨j + 1, g + 1, by rw [HG.out]; omega, by omega, by go_num, by rw [upL_succ L g (by rw [HL.out]; omega)]; go_num, (by repeat (first | (with_reducible exact Later.refl _) | (with_reducible exact Hid.out (by assumption)) | (with_reducible refine Later.alloc ?_ _) | (with_reducible refine Later.setCell ?_ (by simp; omega) _) | (with_reducible refine Later.setCell ?_ (by simp) _) | (with_reducible refine Later.drewN ?_ _) | (with_reducible refine Later.drew ?_) | (with_reducible refine Later.trans ?_ (Hid.out (by assumption)))))⟩
            case measure => simp [intOf]; omega
          · obtain rfl : g = e := by omega
            have HJ2 : Hid (J (uptoB L F k) w2) := Lib.hid (HJ.out _ V w2 none HJ1.out (later_grows hl2 none) (fun r h => by cases h))
            obtain ⟨fn, tmps, assign, body, hy, hR⟩ := hY (uptoB L F k) (secB L F k) w2 HJ2.out (by rw [HPL.out]; exact hlt)
            rw [HSEC.out] at hy
            have hjl : ¬ (j < g - f) := by omega
            clear hl2 hg
            gi_wp2
            refine hR.mono ?_
            rintro e3 W3 (⟨rfl, hJ3, hk3⟩ | ⟨rfl, hJx3⟩)
            · have H3 : Hid (J (uptoB L F (k + 1)) W3) := Lib.hid (by rw [HUP.out]; exact hJ3)
              have H4 : Hid (KB w.heap.size ob w W3) := Lib.hid ((HW.out.later H2.out).trans hk3)
              clear hJ3 hk3
              gi_wp2
              go_roundw
              case rel => exact ⟨k + 1, by omega, by go_num, by rw [HEQ.out]; go_num, H3.out, H4.out⟩
              case measure => simp [intOf]; omega
            · have H3 : Hid (∃ pre, pre <+: uptoB L F m ∧ Jx pre W3) := Lib.hid ⟨uptoB L F (k + 1), uptoB_pre L F (k + 1) m (by omega), by rw [HUP.out]; exact hJx3⟩
              clear hJx3
              gi_wp2
              refine bodyPost_ret (results_none rfl _ _ _) rfl ?_
              exact ⟨⟨_, rfl⟩, .inr H3.out⟩
      · have hkm : ¬ ((k : Int) + 1 < m) := by omega
        have hen := HN.out (by omega)
        subst hen
        clear hB g1
        gi_wp2
        clear ck cf cl
        gi_loopw [8, 37] (fun ln i w2 => ∃ j g : Nat, g = f + j ∧ g ≤ e ∧ i = .int .i64 j ∧ ln = .int .i64 (upL L g - upL L f) ∧ Later V w2) (fun _ i _ => e - f - (intOf i).toNat)
        case atStart => exact ⟨0, f, rfl, by omega, rfl, by rw [Int.sub_self], Later.refl _⟩
        case round =>
          obtain ⟨w2, rfl⟩ : ∃ w2, w2 = wr := ⟨_, rfl⟩
          obtain ⟨j, g, hg, hge, rfl, rfl, hl2⟩ := hrel
          have H2 := Lib.hid hl2
          obtain ⟨_, _, bd1, bd2⟩ := up_bd L f (by rw [HL.out]; omega) (okB_le L L.length f (by rw [HL.out]; omega) HO.out)
          obtain ⟨_, _, bd3, bd4⟩ := up_bd L g (by rw [HL.out]; omega) (okB_le L L.length g (by rw [HL.out]; omega) HO.out)
          have bd5 := upL_mono L f g (by omega) (by rw [HL.out]; omega) HO.out
          by_cases hlt2 : g < e
          · obtain ⟨b', o', hbb, hb', hc⟩ := ((HX.out.kb HW.out HNE.out).sg.later hl2).at g (by omega)
            simp only [Option.some.injEq, Addr.mk.injEq, and_true] at hbb
            obtain ⟨rfl, rfl⟩ := hbb
            obtain ⟨c0, c1, c2, c3, c4, c5, c6⟩ := hc
            rw [show o0 + g * 7 = o0 + f * 7 + j * 7 by omega] at c0 c1 c2 c3 c4 c5 c6
            have hjl : j < e - f := by omega
            have HG := Lib.hid hg
            clear hg
            have hr := (sgB_iff _).1 (okB_at L L.length g (Nat.le_refl _) (by rw [HL.out]; omega) HO.out)
            have r1 := hr.2.1.1; have r2 := hr.2.1.2
            clear hr hl2
            gi_wp2
            go_roundw
            case rel => exact ⟨j + 1, g + 1, by rw [HG.out]; omega, by omega, by go_num, by rw [upL_succ L g (by rw [HL.out]; omega)]; go_num, (by repeat (first | (with_reducible exact Later.refl _) | (with_reducible exact Hid.out (by assumption)) | (with_reducible refine Later.alloc ?_ _) | (with_reducible refine Later.setCell ?_ (by simp; omega) _) | (with_reducible refine Later.setCell ?_ (by simp) _) | (with_reducible refine Later.drewN ?_ _) | (with_reducible refine Later.drew ?_) | (with_reducible refine Later.trans ?_ (Hid.out (by assumption)))))⟩
            case measure => simp [intOf]; omega
          · obtain rfl : g = e := by omega
            have HJ2 : Hid (J (uptoB L F k) w2) := Lib.hid (HJ.out _ V w2 none HJ1.out (later_grows hl2 none) (fun r h => by cases h))
            obtain ⟨fn, tmps, assign, body, hy, hR⟩ := hY (uptoB L F k) (secB L F k) w2 HJ2.out (by rw [HPL.out]; exact hlt)
            rw [HSEC.out] at hy
            have hjl : ¬ (j < g - f) := by omega
            clear hl2 hg
            gi_wp2
            refine hR.mono ?_
            rintro e3 W3 (⟨rfl, hJ3, hk3⟩ | ⟨rfl, hJx3⟩)
            · have H3 : Hid (J (uptoB L F (k + 1)) W3) := Lib.hid (by rw [HUP.out]; exact hJ3)
              have H4 : Hid (KB w.heap.size ob w W3) := Lib.hid ((HW.out.later H2.out).trans hk3)
              clear hJ3 hk3
              gi_wp2
              go_roundw
              case rel => exact ⟨k + 1, by omega, by go_num, by rw [HEQ.out]; go_num, H3.out, H4.out⟩
              case measure => simp [intOf]; omega
            · have H3 : Hid (∃ pre, pre <+: uptoB L F m ∧ Jx pre W3) := Lib.hid ⟨uptoB L F (k + 1), uptoB_pre L F (k + 1) m (by omega), by rw [HUP.out]; exact hJx3⟩
              clear hJx3
              gi_wp2
              refine bodyPost_ret (results_none rfl _ _ _) rfl ?_
              exact ⟨⟨_, rfl⟩, .inr H3.out⟩
    · obtain rfl : k = m := by omega
      have HE := Lib.hid HJ1.out
      gi_wp2
      go_end0
      exact ⟨⟨_, rfl⟩, .inl ⟨_, rfl, HJ1.out⟩⟩
/-- the iterator's contract -/
theorem i_secs_stopsB (Φ : Fence) (N : Nat) (hΦ : Φ.fn 146) (hro : Φ.round = none) (hN : 1 ≤ N) (Bf Bl : Nat) (a : Option Addr) (n cap : Nat) (L : List Sg) (A : Option Addr) (m capF : Nat) (F : List Int) (w : World) (hBx : Boxes w Bf Bl a n cap L A m capF F) (ob : Nat) (hne : NotIn ob Bf Bl a A) :
    SeqStopsK Φ N Try.prog 146 #[.pointer (some ⟨Bf, 0, none⟩), .pointer (some ⟨Bl, 0, none⟩)] (fun x : ScB => #[.agg #[.int .i64 x.1.n, .int .i64 x.1.f, .int .i64 x.1.l, .int .i64 x.1.s, .int .i64 x.1.e]]) (KB w.heap.size ob) (fun ys => ys = uptoB L F m) (fun pre => pre <+: uptoB L F m) m w :=
  fun l J Jx W hW hJ _ hY h0 => i_secs_inB Φ N hΦ hro hN l Bf Bl a n cap L A m capF F w J Jx W hBx ob hne (KB.of_below hW) hJ hY h0
end Go.Proofs.Ytehinlecppbjeaa
namespace Go.Proofs.Ytehinlecppbjeaa
open Go.RowKit
set_option maxHeartbeats 2000000
set_option linter.unusedVariables false
set_option linter.unusedSimpArgs false
end Go.Proofs.Ytehinlecppbjeaa
namespace Go.Proofs.Ytehinlecppbjeaa
open Go.RowKit
set_option maxHeartbeats 2000000
set_option linter.unusedVariables false
set_option linter.unusedSimpArgs false
theorem i_common (a b c d : Int) (w : World) (ha : -1000000000000 ≤ a) (ha' : a ≤ 1000000000000) (hb : -1000000000000 ≤ b) (hb' : b ≤ 1000000000000) (hc : -1000000000000 ≤ c) (hc' : c ≤ 1000000000000) (hd : -1000000000000 ≤ d) (hd' : d ≤ 1000000000000) :
    Calls Try.prog 128 #[.agg #[.int .i64 a, .int .i64 b], .agg #[.int .i64 c, .int .i64 d]] w fun e w' => e = .returned (.agg #[.int .i64 (max a c), .int .i64 (min b d)]) ∧ Later w w' := by
  go_enter Try.func128, Try.ntmps128
  go_wp2
  all_goals
    refine bodyPost_ret (v := .agg #[.int .i64 (max a c), .int .i64 (min b d)]) (by simp [results, Try.results128, go_sem] <;> omega) rfl ⟨rfl, ?_⟩
    exact (((Later.refl _).alloc _).alloc _).alloc _
end Go.Proofs.Ytehinlecppbjeaa
namespace Go.Proofs.Ytehinlecppbjeaa
open Go.RowKit Go.Shelf Go.Maps
attribute [local go_sem] Oper.semAt_some
set_option maxHeartbeats 4000000
set_option linter.unusedVariables false
set_option linter.unusedSimpArgs false
theorem wpIn_into {F : Fence} {n : Nat} {P : Program} {c : Code} {Q : Exit → Act → World → Prop} {a : Act} {W : World} (S : World → Prop) (h : S W) (k : ∀ T, S T → Code.wpIn F n P c Q a T) : Code.wpIn F n P c Q a W := k W h
theorem ownFrom_kb {β : Type} (V : World) (ob : Nat) : OwnFrom V.heap.size (fun (_ : β) W => KB V.heap.size ob V W) :=
  fun _ X Y row hs hg hr => ⟨Nat.le_trans hs.1 hg.size, fun i hi hb => (hg.block i (Nat.lt_of_lt_of_le hi hs.1) (fun e => by have := (hr i e.symm).1; omega)).trans (hs.2 i hi hb)⟩
/-- a block that an interval comes to -/
def hit (a z : Int) (x : Sc) : Bool := decide (max a x.s ≤ min z (x.s + x.e - 1))
/-- the keys that come -/
def kk (a z : Int) (pre : List Sc) : List Lit := (pre.filter (hit a z)).map fun x => .int .i64 x.n
/-- what is stored -/
def uT {H : Type} : DataW H := .lit (.bool true)
theorem kk_snoc (a z : Int) (pre : List Sc) (x : Sc) : kk a z (pre ++ [x]) = if hit a z x = true then kk a z pre ++ [.int .i64 x.n] else kk a z pre := by
  unfold kk; rw [List.filter_append, List.map_append]
  cases h : hit a z x <;> simp [h]
theorem wf64 {n : Int} (h : -9223372036854775808 ≤ n) (h2 : n ≤ 9223372036854775807) : (Lit.int .i64 n).wf = true := by
  simp [Lit.wf, IntKind.min, IntKind.max, IntKind.signed, IntKind.bits]
  omega
theorem om_yes {H : Type} (acc : List Lit) {lo hi : Int} {pre : List ScB} {x : ScB} (h : hit lo hi x.1 = true) :
    (acc ++ kk lo hi ((pre ++ [x]).map Subtype.val)).length = (acc ++ kk lo hi (pre.map Subtype.val)).length + 1 ∧ setOf (uT (H := H)) (acc ++ kk lo hi ((pre ++ [x]).map Subtype.val)) = (setOf uT (acc ++ kk lo hi (pre.map Subtype.val))).put (.int .i64 x.1.n) (.lit (.bool true)) := by
  rw [List.map_append, List.map_singleton, kk_snoc, if_pos h, ← List.append_assoc, setOf_snoc]
  exact ⟨by simp only [List.length_append, List.length_singleton], rfl⟩
theorem om_no (acc : List Lit) {lo hi : Int} {pre : List ScB} {x : ScB} (h : hit lo hi x.1 = false) : acc ++ kk lo hi ((pre ++ [x]).map Subtype.val) = acc ++ kk lo hi (pre.map Subtype.val) := by
  rw [List.map_append, List.map_singleton, kk_snoc, if_neg (by rw [h]; simp)]
theorem body_end {V W w3 w4 w : World} {b0 : Nat} {o : Obj} {row : Option Nat} (HK : KB V.heap.size b0 V W) (HB : Below w.heap.size w W) (H3 : Later W w3) (hg : (w3.alloc o).grownBy w4 row) (hr : ∀ k, row = some k → k = b0) (hb : b0 < V.heap.size) (hw : w.heap.size ≤ b0) :
    KeepsFrom V.heap.size W w4 ∧ KB V.heap.size b0 W w4 ∧ KB V.heap.size b0 V w4 ∧ Below w.heap.size w w4 := by
  have L3 : Later W (w3.alloc o) := H3.alloc o
  have k2 : KB V.heap.size b0 W w4 := (KB.of_later L3 HK.1).trans (KB.of_grown hg (fun k e => .inl (hr k e)) (Nat.le_trans HK.1 L3.size))
  refine ⟨(KeepsFrom.of_grownBy (later_grows L3 none) (fun j e => by cases e)).trans (KeepsFrom.of_grownBy hg (fun j e => by rw [hr j e]; exact hb)), k2, HK.trans k2, (HB.trans (L3.mono HB.size)).grown hg (Nat.le_trans HB.size L3.size) (fun k e => by rw [hr k e]; exact hw)⟩
theorem has_set {H : Type} {acc : List Lit} (h : ∀ y ∈ acc, ∃ x, y = .int .i64 x) (kl : Lit) : has (setOf (uT (H := H)) acc) kl = true ↔ kl ∈ acc := by
  have hk : ∀ y ∈ acc, WideAt.IsKeyLit y := fun y hy => by obtain ⟨x, rfl⟩ := h y hy; trivial
  rw [has_setOf _ _ _ hk, List.any_eq_true]
  constructor
  · rintro ⟨y, hy, e⟩
    rw [← WideAt.sameKey_eq e]; exact hy
  · intro hy
    obtain ⟨x, rfl⟩ := h _ hy
    exact ⟨_, hy, by simp [Lit.sameKey]⟩
/-- what is handed back: a map whose keys are the blocks that the train occupies -/
def OccD {H : Type} (L : List Sg) (F : List Int) (p q : Int) (D : DataW H) : Prop :=
  Tidy D ∧ (∀ kl, has D kl = true → ∃ x, kl = .int .i64 x) ∧ ∀ x : Int, has D (.int .i64 x) = true ↔ x ∈ ocK L F p q F.length
def OccM {H : Type} (L : List Sg) (F : List Int) (p q : Int) (w : World) (e : Ending) (w' : World) : Prop :=
  ∃ (b k : Nat) (D : DataW H), e = .returned (.map (some b)) ∧ w'.ownsMap Try.prog 2 (plainElem (H := H) Try.prog 4) b k D ∧ w.heap.size ≤ b ∧ k ≤ 16 ∧ OccD L F p q D ∧ Below w.heap.size w w'
theorem kk_mem {L : List Sg} {F : List Int} (h : bkB L F = true) (lo hi : Int) (kl : Lit) : kl ∈ kk lo hi ((uptoB L F F.length).map Subtype.val) ↔ ∃ b : Nat, b < F.length ∧ inB L F lo hi b = true ∧ kl = .int .i64 b := by
  unfold kk uptoB
  rw [List.mem_map]
  constructor
  · rintro ⟨x, hx, rfl⟩
    obtain ⟨hx, hh⟩ := List.mem_filter.1 hx
    rw [List.map_map, List.mem_map] at hx
    obtain ⟨b, hb, rfl⟩ := hx
    have hb := List.mem_range.1 hb
    simp only [Function.comp, secB_eq h hb] at hh ⊢
    exact ⟨b, hb, hh, rfl⟩
  · rintro ⟨b, hb, hh, rfl⟩
    refine ⟨sec L F b, List.mem_filter.2 ⟨?_, hh⟩, rfl⟩
    rw [List.map_map, List.mem_map]
    exact ⟨b, List.mem_range.2 hb, by simp only [Function.comp, secB_eq h hb]⟩
theorem occ_has {H : Type} {L : List Sg} {F : List Int} {m : Nat} {p q T r z z2 : Int} (h : bkB L F = true ∧ F.length = m) (hT : totL L = T) (hr : rearK T p q = r) (hz : min (r + q - 1) (T - 1) = z) (hz2 : r + q - 1 - T = z2) :
    OccD (H := H) L F p q (setOf uT (kk r z ((uptoB L F m).map Subtype.val) ++ kk 0 z2 ((uptoB L F m).map Subtype.val))) := by
  obtain ⟨h, rfl⟩ := h
  have hint : ∀ y ∈ kk r z ((uptoB L F F.length).map Subtype.val) ++ kk 0 z2 ((uptoB L F F.length).map Subtype.val), ∃ x, y = .int .i64 x := by
    intro y hy
    rcases List.mem_append.1 hy with hy | hy
    · obtain ⟨b, _, _, e⟩ := (kk_mem h _ _ _).1 hy; exact ⟨_, e⟩
    · obtain ⟨b, _, _, e⟩ := (kk_mem h _ _ _).1 hy; exact ⟨_, e⟩
  refine ⟨tidy_setOf _ _ (fun y hy => by obtain ⟨x, rfl⟩ := hint y hy; trivial), fun kl hk => hint _ ((has_set hint kl).1 hk), fun x => ?_⟩
  rw [has_set hint, List.mem_append, kk_mem h, kk_mem h, ocK_mem]
  subst hT hr hz hz2
  constructor
  · rintro (⟨b, hb, hh, e⟩ | ⟨b, hb, hh, e⟩)
    · cases e; exact ⟨b, rfl, hb, by unfold ocB; rw [hh]; simp⟩
    · cases e; exact ⟨b, rfl, hb, by unfold ocB; rw [hh]; simp⟩
  · rintro ⟨b, rfl, hb, hh⟩
    unfold ocB at hh
    rw [Bool.or_eq_true] at hh
    rcases hh with hh | hh
    · exact .inl ⟨b, hb, hh, rfl⟩
    · exact .inr ⟨b, hb, hh, rfl⟩
theorem kk_len (a z : Int) (pre : List Sc) : (kk a z pre).length ≤ pre.length := by
  unfold kk; rw [List.length_map]; exact List.length_filter_le _ _
theorem top3 (W : World) (o1 o2 : Obj) (v3 : Value) (T3 : TypeId) : (((W.alloc o1).alloc o2).alloc (.cells #[v3] T3)).cell? ⟨W.heap.size + 1 + 1, 0, none⟩ = some v3 := by
  have key : ∀ X : World, (X.alloc (.cells #[v3] T3)).cell? ⟨X.heap.size, 0, none⟩ = some v3 := fun X => by simp
  have h := key ((W.alloc o1).alloc o2)
  simpa only [World.size_alloc] using h
theorem top2 (W : World) (o1 o3 : Obj) (v2 : Value) (T2 : TypeId) : (((W.alloc o1).alloc (.cells #[v2] T2)).alloc o3).cell? ⟨W.heap.size + 1, 0, none⟩ = some v2 := by
  rw [World.cell?_alloc_lt _ _ ⟨W.heap.size + 1, 0, none⟩ (by simp)]
  have h : ((W.alloc o1).alloc (.cells #[v2] T2)).cell? ⟨(W.alloc o1).heap.size, 0, none⟩ = some v2 := by simp
  simpa only [World.size_alloc] using h
theorem top1 (W : World) (u v : Value) (T : TypeId) (o2 o3 : Obj) : (((W.alloc (.cells #[u, v] T)).alloc o2).alloc o3).cell? ⟨W.heap.size, 0, none⟩ = some u ∧ (((W.alloc (.cells #[u, v] T)).alloc o2).alloc o3).cell? ⟨W.heap.size, 1, none⟩ = some v := by
  rw [World.cell?_alloc_lt _ _ ⟨W.heap.size, 0, none⟩ (by simp; omega), World.cell?_alloc_lt _ _ ⟨W.heap.size, 1, none⟩ (by simp; omega), World.cell?_alloc_lt _ _ ⟨W.heap.size, 0, none⟩ (by simp), World.cell?_alloc_lt _ _ ⟨W.heap.size, 1, none⟩ (by simp)]
  simp
/-- the state where the blocks are ranged over -/
structure S0 {H : Type} (a : Option Addr) (n cap : Nat) (L : List Sg) (A : Option Addr) (m capF : Nat) (F : List Int) (b0 X : Nat) (lo hi : Int) (c : Nat) (D : DataW H) (w V : World) : Prop where
  om : V.ownsMap Try.prog 2 (plainElem (H := H) Try.prog 4) b0 c D
  bx : Boxes V (X + 1 + 1) (X + 1) a n cap L A m capF F
  cc : V.cell? ⟨X, 0, none⟩ = some (.int .i64 lo) ∧ V.cell? ⟨X, 1, none⟩ = some (.int .i64 hi)
  cv : V.cell? ⟨b0 + 1, 0, none⟩ = some (.map (some b0))
  c5 : V.cell? ⟨w.heap.size, 0, none⟩ = some (.slice a n cap)
  lt : Below w.heap.size w V
theorem S0.c0 {H : Type} {a : Option Addr} {n cap : Nat} {L : List Sg} {A : Option Addr} {m capF : Nat} {F : List Int} {b0 X : Nat} {lo hi : Int} {c : Nat} {D : DataW H} {w V : World} (h : S0 a n cap L A m capF F b0 X lo hi c D w V) : V.cell? ⟨X, 0, none⟩ = some (.int .i64 lo) := h.cc.1
theorem S0.c1 {H : Type} {a : Option Addr} {n cap : Nat} {L : List Sg} {A : Option Addr} {m capF : Nat} {F : List Int} {b0 X : Nat} {lo hi : Int} {c : Nat} {D : DataW H} {w V : World} (h : S0 a n cap L A m capF F b0 X lo hi c D w V) : V.cell? ⟨X, 1, none⟩ = some (.int .i64 hi) := h.cc.2
set_option maxRecDepth 100000 in
theorem i_occupiedBy {H : Type} (a : Option Addr) (n cap : Nat) (L : List Sg) (A : Option Addr) (m capF : Nat) (F : List Int) (p q : Int) (w : World) (hs : Sgs w a n L) (hf : Sl w A m F) (hcn : n ≤ cap) (hcF : m ≤ capF) (hb : bkB L F = true) (hp : 0 ≤ p) (hp2 : p < totL L) (hq : 1 ≤ q) (hq2 : q ≤ totL L) :
    Calls Try.prog 89 #[.agg #[.slice a n cap], .slice A m capF, .int .i64 (totL L), .int .i64 p, .int .i64 q] w (OccM (H := H) L F p q w) := by
  have HS := Lib.hid hs; have HF := Lib.hid hf; have HBK := Lib.hid hb
  have NA : Hid (∀ x, a = some x → x.block ≠ w.heap.size + 1) := Lib.hid (fun x hx => by
    have h3 := ((layB_iff L).1 (bkB_lay hb).1).1
    obtain ⟨b, off, e, hlt, _⟩ := hs.at 0 (by rw [← hs.1]; omega)
    rw [hx] at e; cases e; show b ≠ _; omega)
  have NF : Hid (∀ x, A = some x → x.block ≠ w.heap.size + 1) := Lib.hid (fun x hx => by
    have h2 := ((bkC_iff L F).1 (bkB_lay hb).2).1
    obtain ⟨b, off, e, hc⟩ := hf.at 0 (by rw [← hf.1]; omega)
    have := cell_lt hc
    rw [hx] at e; cases e; show b ≠ _; omega)
  obtain ⟨t1, t2⟩ := tot_bd (bkB_lay hb).1
  have HFL := Lib.hid hf.1
  have hm8 : m ≤ 8 := by have := ((bkC_iff L F).1 (bkB_lay hb).2).2.1; rw [hf.1] at this; exact this
  have hmm := @run_makeMap Try.prog
  generalize ht : totL L = T at *
  have HT := Lib.hid ht
  clear hs hf ht hb
  refine (callsIn_wide (n := 6)).1 ?_
  refine callsIn_of_wp_marks Try.func89 rfl trivial ?_ rfl
  simp only [Try.ntmps89, List.size_toArray, List.length_cons, List.length_nil, Nat.reduceAdd, Nat.reduceSub, Array.replicate_succ, Array.replicate_zero, List.push_toArray, List.append_toArray, List.nil_append, List.cons_append]
  gi_wp2_with fail
  refine ⟨trivial, ?_⟩
  refine (callsIn_wide.2 (i_coveredParts T p q _ (by omega) t2 hp hp2 hq hq2)).mono ?_
  rintro e w1 ⟨rfl, hb⟩
  have hom := World.ownsMap_made (w.alloc (.cells #[.slice a n cap] 26)) Try.prog 2 (plainElem (H := H) Try.prog 4)
  simp only [World.size_alloc] at hom
  have HOM := Lib.hid ((hom.alloc (.cells #[.map (some (w.heap.size + 1))] 97)).kept (later_grows hb none) (by simp))
  have K5 : Hid (w1.cell? ⟨w.heap.size, 0, none⟩ = some (.slice a n cap)) := Lib.hid (by rw [hb.cell (p := ⟨w.heap.size, 0, none⟩) (by simp; omega), World.cell?_alloc_lt _ _ ⟨w.heap.size, 0, none⟩ (by simp; omega), World.cell?_alloc_lt _ _ ⟨w.heap.size, 0, none⟩ (by simp)]; simp)
  have K11 : Hid (w1.cell? ⟨w.heap.size + 1 + 1, 0, none⟩ = some (.map (some (w.heap.size + 1)))) := Lib.hid (by rw [hb.cell (p := ⟨w.heap.size + 1 + 1, 0, none⟩) (by simp)]; have h9 := cell_of_row _ _ 0 _ 97 (0, 0) (heap_alloc_new ((w.alloc (.cells #[.slice a n cap] 26)).alloc (.map #[] 0)) (.cells #[.map (some (w.heap.size + 1))] 97)); simp only [World.size_alloc] at h9; exact h9)
  have L1 : Hid (Later w w1) := Lib.hid (Later.trans (by repeat (first | (with_reducible exact Later.refl _) | (with_reducible exact Hid.out (by assumption)) | (with_reducible refine Later.alloc ?_ _) | (with_reducible refine Later.setCell ?_ (by simp; omega) _) | (with_reducible refine Later.setCell ?_ (by simp) _) | (with_reducible refine Later.drewN ?_ _) | (with_reducible refine Later.drew ?_) | (with_reducible refine Later.trans ?_ (Hid.out (by assumption))))) hb)
  have h11 := cell_lt K11.out
  clear hom hb
  obtain ⟨r0, r1⟩ : 0 ≤ rearK T p q ∧ rearK T p q < T := mod_rng _ _ (by omega)
  generalize hr : rearK T p q = r at r0 r1 ⊢
  have z0 : -1 ≤ min (r + q - 1) (T - 1) ∧ min (r + q - 1) (T - 1) ≤ 100000000 := by omega
  have z3 : -100000000 ≤ r + q - 1 - T ∧ r + q - 1 - T ≤ 100000000 := by omega
  generalize hz : min (r + q - 1) (T - 1) = z at z0 ⊢
  generalize hz2 : r + q - 1 - T = z2 at z3 ⊢
  have HR := Lib.hid hr; have HZ := Lib.hid hz; have HZ2 := Lib.hid hz2
  clear hr hz hz2
  obtain ⟨z0, z1⟩ := z0
  obtain ⟨z3, z4⟩ := z3
  gi_wp2_with fail
  refine wpIn_into (fun T => T.ownsMap Try.prog 2 (plainElem (H := H) Try.prog 4) (w.heap.size + 1) 0 (.map []) ∧ T.cell? ⟨w.heap.size, 0, none⟩ = some (.slice a n cap) ∧ T.cell? ⟨w.heap.size + 1 + 1, 0, none⟩ = some (.map (some (w.heap.size + 1))) ∧ Later w T) ⟨?_, ?_, ?_, ?_⟩ ?_
  · exact (HOM.out.alloc _).alloc _
  · rw [World.cell?_alloc_lt _ _ ⟨w.heap.size, 0, none⟩ (by simp; omega), World.cell?_alloc_lt _ _ ⟨w.heap.size, 0, none⟩ (by show w.heap.size < _; omega)]; exact K5.out
  · rw [World.cell?_alloc_lt _ _ ⟨w.heap.size + 1 + 1, 0, none⟩ (by simp; omega), World.cell?_alloc_lt _ _ ⟨w.heap.size + 1 + 1, 0, none⟩ (by show w.heap.size + 1 + 1 < _; omega)]; exact K11.out
  · exact (by repeat (first | (with_reducible exact Later.refl _) | (with_reducible exact Hid.out (by assumption)) | (with_reducible refine Later.alloc ?_ _) | (with_reducible refine Later.setCell ?_ (by simp; omega) _) | (with_reducible refine Later.setCell ?_ (by simp) _) | (with_reducible refine Later.drewN ?_ _) | (with_reducible refine Later.drew ?_) | (with_reducible refine Later.trans ?_ (Hid.out (by assumption)))))
  rintro W1 ⟨hm1, c5, c11, hl1⟩
  have M0 : Hid (W1.ownsMap Try.prog 2 (plainElem (H := H) Try.prog 4) (w.heap.size + 1) ([] : List Lit).length (setOf uT ([] : List Lit))) := Lib.hid hm1
  have W1L := Lib.hid hl1
  have hz11 := cell_lt c11; have hz5 := cell_lt c5
  clear hm1 hl1 HOM K5 K11 L1 h11
  refine wpIn_loop_rounds 3 ?_
  rw [roundsIn_succ]
  have ix0 : ∀ W, (Instr.index 130 (.agg #[.int .i64 r, .int .i64 z, .int .i64 0, .int .i64 z2]) (.int .i64 0)).run Try.prog W = .ok (.agg #[.int .i64 r, .int .i64 z]) W := fun W => by kernel_rfl
  have ix1 : ∀ W, (Instr.index 130 (.agg #[.int .i64 r, .int .i64 z, .int .i64 0, .int .i64 z2]) (.int .i64 1)).run Try.prog W = .ok (.agg #[.int .i64 0, .int .i64 z2]) W := fun W => by kernel_rfl
  gi_wp2_with fail
  refine ⟨trivial, ?_⟩
  refine (callsIn_wide.2 (i_sectionsOf a n cap A m capF _)).mono ?_
  rintro e w2 ⟨rfl, rfl⟩
  gi_wp2_with fail
  have hzX : w.heap.size + 1 + 1 < W1.heap.size := cell_lt c11
  have hL3 : Later W1 (((W1.alloc (.cells #[.int .i64 r, .int .i64 z] 91)).alloc (.cells #[.slice a n cap] 26)).alloc (.cells #[.slice A m capF] 38)) := ((Later.refl _).alloc _ |>.alloc _).alloc _
  have hS0 : S0 (H := H) a n cap L A m capF F (w.heap.size + 1) W1.heap.size r z (([] : List Lit)).length (setOf uT (([] : List Lit))) w (((W1.alloc (.cells #[.int .i64 r, .int .i64 z] 91)).alloc (.cells #[.slice a n cap] 26)).alloc (.cells #[.slice A m capF] 38)) :=
    ⟨((M0.out.alloc _).alloc _).alloc _, ⟨top3 _ _ _ _ _, top2 _ _ _ _ _, HS.out.later (W1L.out.trans hL3), HF.out.later (W1L.out.trans hL3), hcn, hcF, HBK.out⟩, top1 _ _ _ _ _ _, by rw [hL3.cell (p := ⟨w.heap.size + 1 + 1, 0, none⟩) hzX]; exact c11, by rw [hL3.cell (p := ⟨w.heap.size, 0, none⟩) (by show w.heap.size < _; omega)]; exact c5, W1L.out.trans hL3⟩
  refine wpIn_into (fun T => S0 (H := H) a n cap L A m capF F (w.heap.size + 1) W1.heap.size r z (([] : List Lit)).length (setOf uT (([] : List Lit))) w T ∧ Later W1 T) ⟨hS0, hL3⟩ ?_
  clear hS0 hL3
  rintro V0 ⟨hV, hLV⟩
  have HV := Lib.hid hV
  have LV0 := Lib.hid hLV
  have hLVz := hLV.size
  clear hLV
  have hzV : w.heap.size + 1 + 1 < W1.heap.size := cell_lt c11
  have hzW : W1.heap.size + 1 + 1 < V0.heap.size := cell_lt hV.bx.bf
  clear hV
  refine wpIn_rangeFunc_ownH rfl (by omega) (gf := 146) (lb := #[.pointer (some ⟨W1.heap.size + 1 + 1, 0, none⟩), .pointer (some ⟨W1.heap.size + 1, 0, none⟩)]) rfl trivial (enters_of Try.func146 (by kernel_rfl) rfl)
    (i_secs_stopsB Fence.wide _ trivial rfl (by omega) (W1.heap.size + 1 + 1) (W1.heap.size + 1) a n cap L A m capF F V0 HV.out.bx (w.heap.size + 1) ⟨by omega, by omega, NA.out, NF.out⟩) kb_t (kb_b (Nat.le_refl _)) (Below.refl _ _) (fun _ => rfl)
    (fun pre W => W.ownsMap Try.prog 2 (plainElem (H := H) Try.prog 4) (w.heap.size + 1) ((([] : List Lit)) ++ kk r z (pre.map Subtype.val)).length (setOf uT ((([] : List Lit)) ++ kk r z (pre.map Subtype.val))) ∧ KB V0.heap.size (w.heap.size + 1) V0 W ∧ Below w.heap.size w W)
    (fun _ _ _ => False)
    (OwnFrom.and (fun s X Y row hs hg hr => hs.kept hg (fun e => by have := (hr _ e.symm).1; omega)) (OwnFrom.and (ownFrom_kb _ _) (ownFrom_below (Nat.le_refl _) (by omega))))
    (fun _ _ _ _ _ hs _ _ => hs)
    ⟨by simpa [kk] using HV.out.om, KB.refl _ _ _, HV.out.lt⟩
    (fun x a' W => ∃ Bx, V0.heap.size ≤ Bx ∧ ScAt W Bx x.1 ∧ a' = { tmps := #[(.agg #[.slice a n cap]), (.slice A m capF), (.int .i64 T), (.int .i64 p), (.int .i64 q), (.pointer (some ⟨w.heap.size, 0, none⟩)), undef, undef, undef, undef, (.map none), (.pointer (some ⟨w.heap.size + 1 + 1, 0, none⟩)), (.pointer (some ⟨w1.heap.size, 0, none⟩)), (.pointer (some ⟨w1.heap.size + 1, 0, none⟩)), undef, (.pointer (some ⟨W1.heap.size, 0, none⟩)), (.pointer (some ⟨Bx, 0, none⟩)), undef, (.map (some (w.heap.size + 1))), (.tuple #[(.agg #[.int .i64 r, .int .i64 z]), (.agg #[.int .i64 0, .int .i64 z2])]), (.int .i64 T), (.int .i64 p), (.int .i64 q), (.tuple #[(.agg #[.int .i64 r, .int .i64 z]), (.agg #[.int .i64 0, .int .i64 z2])]), (.agg #[.int .i64 r, .int .i64 z]), (.agg #[.int .i64 0, .int .i64 z2]), (.agg #[.int .i64 r, .int .i64 z]), (.agg #[.int .i64 0, .int .i64 z2]), (.agg #[.int .i64 r, .int .i64 z, .int .i64 0, .int .i64 z2]), (.int .i64 0), (.bool true), (.agg #[.int .i64 r, .int .i64 z]), (.agg #[.slice a n cap]), (.slice A m capF), (.func (.func 146) #[] #[.pointer (some ⟨W1.heap.size + 1 + 1, 0, none⟩), .pointer (some ⟨W1.heap.size + 1, 0, none⟩)]), (.agg #[.int .i64 x.1.n, .int .i64 x.1.f, .int .i64 x.1.l, .int .i64 x.1.s, .int .i64 x.1.e]), undef, undef, undef, undef, undef, undef, undef, undef, undef, undef, undef, undef, undef, undef, undef, undef, undef, undef, undef, undef, undef], defers := [] })
    (fun x a' _ X Y row hs hg hr => by obtain ⟨Bx, h1, h2, h3⟩ := hs; exact ⟨Bx, h1, h2.kept hg (fun r e => (hr r e).2), h3⟩)
    ?assign0 ?body0 ?done0 (fun _ _ _ _ _ _ h _ => h.elim)
  case assign0 =>
    rintro l pre x W K ⟨hm, hk, hb⟩ hK
    gi_wp2
    have hl : Later W (W.alloc (.cells #[.int .i64 x.1.n, .int .i64 x.1.f, .int .i64 x.1.l, .int .i64 x.1.s, .int .i64 x.1.e] 105)) := (Later.refl W).alloc _
    exact hK _ _ ((KeepsOthers.alloc _ _).from _) (KB.of_later hl hk.1) ⟨hm.alloc _, hk.later hl, hb.trans (hl.mono hb.size)⟩ ⟨W.heap.size, hk.1, by unfold ScAt; simp, rfl⟩
  case body0 =>
    rintro l pre x a' W hl ⟨rr, hr⟩ ⟨hm, hk, hb⟩ ⟨Bx, hBx, hcx, rfl⟩ hlt
    obtain ⟨x0, x1, x2, x3, x4⟩ := hcx
    have hbx := cell_lt x0
    have HM := Lib.hid hm; have HK := Lib.hid hk; have HB := Lib.hid hb
    have v0 : W.cell? ⟨W1.heap.size, 0, none⟩ = some (.int .i64 r) := by rw [hk.cell (by omega) (by omega)]; exact HV.out.c0
    have v1 : W.cell? ⟨W1.heap.size, 1, none⟩ = some (.int .i64 z) := by rw [hk.cell (by omega) (by omega)]; exact HV.out.c1
    have v2 : W.cell? ⟨w.heap.size + 1 + 1, 0, none⟩ = some (.map (some (w.heap.size + 1))) := by rw [hk.cell (by omega) (by omega)]; exact HV.out.cv
    obtain ⟨⟨n0, n1⟩, ⟨s0, s1⟩, e0, e1⟩ := x.2
    clear hm hk hb
    gi_wp2_with fail
    refine ⟨trivial, ?_⟩
    refine (CallsIn.inRound l (callsIn_wide.2 (i_common r z x.1.s (x.1.s + x.1.e - 1) W (by omega) (by omega) (by omega) (by omega) (by omega) (by omega) (by omega) (by omega)))).mono ?_
    rintro e w3 ⟨rfl, hb3⟩
    have H3 := Lib.hid hb3
    have y0 : w3.cell? ⟨Bx, 0, none⟩ = some (.int .i64 x.1.n) := by rw [hb3.cell (p := ⟨Bx, 0, none⟩) hbx]; exact x0
    have y2 : w3.cell? ⟨w.heap.size + 1 + 1, 0, none⟩ = some (.map (some (w.heap.size + 1))) := by rw [hb3.cell (p := ⟨w.heap.size + 1 + 1, 0, none⟩) (cell_lt v2)]; exact v2
    have M3 := Lib.hid ((HM.out.kept (later_grows hb3 none) (by simp)).alloc (.cells #[.int .i64 (max r x.1.s), .int .i64 (min z (x.1.s + x.1.e - 1))] 91))
    have hby := cell_lt y0; have hvy := cell_lt y2
    clear hb3 x0 x1 x2 x3 x4 v0 v1 v2
    by_cases hh : max r x.1.s ≤ min z (x.1.s + x.1.e - 1)
    · have HH : Hid (hit r z x.1 = true) := Lib.hid (by unfold hit; simpa using hh)
      generalize hmx : max r x.1.s = mx at hh M3 ⊢
      generalize hmn : min z (x.1.s + x.1.e - 1) = mn at hh M3 ⊢
      clear hmx hmn
      have HC : Hid (((([] : List Lit)) ++ kk r z (pre.map Subtype.val)).length < maxLen) := Lib.hid (by
        have := kk_len r z (pre.map Subtype.val)
        rw [List.length_map] at this
        rw [List.length_append]
        have ha : (([] : List Lit)).length ≤ 8 := by simp
        unfold maxLen; omega)
      have hkey := Maps.keyOf_int_mk Try.underlying2 (wf64 (n := x.1.n) (by omega) (by omega))
      gi_wp2_with (gi_at_mapUpdate; refine wpListIn_mapUpdate_own _ rfl _ _ _ 97 rfl 2 4 (Maps.int_keyed Try.underlying2) Try.underlying97 _ (w.heap.size + 1) _ _ rfl M3.out HC.out _ _ _ rfl rfl hkey _ [] (plainElem_bool Try.underlying4 true) ?_; intro w4 hown1 hgrow1)
      obtain ⟨q1, q2, q3, q4⟩ := body_end HK.out HB.out H3.out hgrow1 (fun j e => by cases e; rfl) (by omega) (by omega)
      exact ⟨q1, q2, by rw [(om_yes (H := H) _ HH.out).1, (om_yes (H := H) _ HH.out).2]; exact hown1, q3, q4⟩
    · have HH : Hid (hit r z x.1 = false) := Lib.hid (by unfold hit; simpa using hh)
      have hh' : min z (x.1.s + x.1.e - 1) < max r x.1.s := by omega
      generalize hmx : max r x.1.s = mx at hh hh' M3 ⊢
      generalize hmn : min z (x.1.s + x.1.e - 1) = mn at hh hh' M3 ⊢
      clear hmx hmn
      gi_wp2_with fail
      obtain ⟨q1, q2, q3, q4⟩ := body_end (row := none) HK.out HB.out H3.out ⟨rfl, rfl, rfl, Nat.le_refl _, fun _ _ _ => rfl⟩ (fun j e => by cases e) (by omega) (by omega)
      exact ⟨q1, q2, by rw [om_no _ HH.out]; exact M3.out, q3, q4⟩
  case done0 =>
    rintro D0 ys W2 hD0 rfl ⟨hm, hk, hb⟩ hK0
    have M1 : Hid (W2.ownsMap Try.prog 2 (plainElem (H := H) Try.prog 4) (w.heap.size + 1) (kk r z ((uptoB L F m).map Subtype.val)).length (setOf uT (kk r z ((uptoB L F m).map Subtype.val)))) := Lib.hid (by simpa using hm)
    have W2L : Hid (Later w W2) := Lib.hid hb
    have HK0 := Lib.hid hK0
    have hDl := (Array.getElem?_eq_some_iff.1 hK0).1
    have c5' : W2.cell? ⟨w.heap.size, 0, none⟩ = some (.slice a n cap) := by rw [hk.cell (by omega) (by omega)]; exact HV.out.c5
    have c11' : W2.cell? ⟨w.heap.size + 1 + 1, 0, none⟩ = some (.map (some (w.heap.size + 1))) := by rw [hk.cell (by omega) (by omega)]; exact HV.out.cv
    have hkk := hk.1
    clear hm hb hk c5 c11 HV hK0
    have c5 := c5'; have c11 := c11'
    clear c5' c11'
    have hz11' := cell_lt c11; have hz5' := cell_lt c5
    gi_wp2_with fail
    rw [roundsIn_succ]
    gi_wp2_with fail
    refine ⟨trivial, ?_⟩
    refine (callsIn_wide.2 (i_sectionsOf a n cap A m capF _)).mono ?_
    rintro e w3 ⟨rfl, rfl⟩
    gi_wp2_with fail
    have hzX : w.heap.size + 1 + 1 < W2.heap.size := cell_lt c11
    have hL3 : Later W2 (((W2.alloc (.cells #[.int .i64 0, .int .i64 z2] 91)).alloc (.cells #[.slice a n cap] 26)).alloc (.cells #[.slice A m capF] 38)) := ((Later.refl _).alloc _ |>.alloc _).alloc _
    have hS0 : S0 (H := H) a n cap L A m capF F (w.heap.size + 1) W2.heap.size 0 z2 (kk r z ((uptoB L F m).map Subtype.val)).length (setOf uT (kk r z ((uptoB L F m).map Subtype.val))) w (((W2.alloc (.cells #[.int .i64 0, .int .i64 z2] 91)).alloc (.cells #[.slice a n cap] 26)).alloc (.cells #[.slice A m capF] 38)) :=
      ⟨((M1.out.alloc _).alloc _).alloc _, ⟨top3 _ _ _ _ _, top2 _ _ _ _ _, HS.out.later (W2L.out.trans hL3), HF.out.later (W2L.out.trans hL3), hcn, hcF, HBK.out⟩, top1 _ _ _ _ _ _, by rw [hL3.cell (p := ⟨w.heap.size + 1 + 1, 0, none⟩) hzX]; exact c11, by rw [hL3.cell (p := ⟨w.heap.size, 0, none⟩) (by show w.heap.size < _; omega)]; exact c5, W2L.out.trans hL3⟩
    refine wpIn_into (fun T => S0 (H := H) a n cap L A m capF F (w.heap.size + 1) W2.heap.size 0 z2 (kk r z ((uptoB L F m).map Subtype.val)).length (setOf uT (kk r z ((uptoB L F m).map Subtype.val))) w T ∧ Later W2 T) ⟨hS0, hL3⟩ ?_
    clear hS0 hL3
    rintro V1 ⟨hV, hLV⟩
    have HV := Lib.hid hV
    have LV1 := Lib.hid hLV
    have hLVz := hLV.size
    clear hLV
    have hzV : w.heap.size + 1 + 1 < W2.heap.size := cell_lt c11
    have hzW : W2.heap.size + 1 + 1 < V1.heap.size := cell_lt hV.bx.bf
    clear hV
    refine wpIn_rangeFunc_ownH rfl (by omega) (gf := 146) (lb := #[.pointer (some ⟨W2.heap.size + 1 + 1, 0, none⟩), .pointer (some ⟨W2.heap.size + 1, 0, none⟩)]) rfl trivial (enters_of Try.func146 (by kernel_rfl) rfl)
      (i_secs_stopsB Fence.wide _ trivial rfl (by omega) (W2.heap.size + 1 + 1) (W2.heap.size + 1) a n cap L A m capF F V1 HV.out.bx (w.heap.size + 1) ⟨by omega, by omega, NA.out, NF.out⟩) kb_t (kb_b (Nat.le_refl _)) (Below.refl _ _) (fun _ => rfl)
      (fun pre W => W.ownsMap Try.prog 2 (plainElem (H := H) Try.prog 4) (w.heap.size + 1) ((kk r z ((uptoB L F m).map Subtype.val)) ++ kk 0 z2 (pre.map Subtype.val)).length (setOf uT ((kk r z ((uptoB L F m).map Subtype.val)) ++ kk 0 z2 (pre.map Subtype.val))) ∧ KB V1.heap.size (w.heap.size + 1) V1 W ∧ Below w.heap.size w W)
      (fun _ _ _ => False)
      (OwnFrom.and (fun s X Y row hs hg hr => hs.kept hg (fun e => by have := (hr _ e.symm).1; omega)) (OwnFrom.and (ownFrom_kb _ _) (ownFrom_below (Nat.le_refl _) (by omega))))
      (fun _ _ _ _ _ hs _ _ => hs)
      ⟨by simpa [kk] using HV.out.om, KB.refl _ _ _, HV.out.lt⟩
      (fun x a' W => ∃ Bx, V1.heap.size ≤ Bx ∧ ScAt W Bx x.1 ∧ a' = { tmps := #[(.agg #[.slice a n cap]), (.slice A m capF), (.int .i64 T), (.int .i64 p), (.int .i64 q), (.pointer (some ⟨w.heap.size, 0, none⟩)), undef, undef, undef, undef, (.map none), (.pointer (some ⟨w.heap.size + 1 + 1, 0, none⟩)), (.pointer (some ⟨w1.heap.size, 0, none⟩)), (.pointer (some ⟨w1.heap.size + 1, 0, none⟩)), undef, (.pointer (some ⟨W2.heap.size, 0, none⟩)), (.pointer (some ⟨Bx, 0, none⟩)), undef, (.map (some (w.heap.size + 1))), (.tuple #[(.agg #[.int .i64 r, .int .i64 z]), (.agg #[.int .i64 0, .int .i64 z2])]), (.int .i64 T), (.int .i64 p), (.int .i64 q), (.tuple #[(.agg #[.int .i64 r, .int .i64 z]), (.agg #[.int .i64 0, .int .i64 z2])]), (.agg #[.int .i64 r, .int .i64 z]), (.agg #[.int .i64 0, .int .i64 z2]), (.agg #[.int .i64 r, .int .i64 z]), (.agg #[.int .i64 0, .int .i64 z2]), (.agg #[.int .i64 r, .int .i64 z, .int .i64 0, .int .i64 z2]), (.int .i64 1), (.bool true), (.agg #[.int .i64 0, .int .i64 z2]), (.agg #[.slice a n cap]), (.slice A m capF), (.func (.func 146) #[] #[.pointer (some ⟨W2.heap.size + 1 + 1, 0, none⟩), .pointer (some ⟨W2.heap.size + 1, 0, none⟩)]), (.agg #[.int .i64 x.1.n, .int .i64 x.1.f, .int .i64 x.1.l, .int .i64 x.1.s, .int .i64 x.1.e]), undef, undef, undef, undef, undef, undef, undef, undef, undef, undef, undef, undef, undef, undef, undef, undef, undef, undef, undef, (.int .i64 1), undef], defers := [] })
      (fun x a' _ X Y row hs hg hr => by obtain ⟨Bx, h1, h2, h3⟩ := hs; exact ⟨Bx, h1, h2.kept hg (fun r e => (hr r e).2), h3⟩)
      ?assign1 ?body1 ?done1 (fun _ _ _ _ _ _ h _ => h.elim)
    case assign1 =>
      rintro l pre x W K ⟨hm, hk, hb⟩ hK
      gi_wp2
      have hl : Later W (W.alloc (.cells #[.int .i64 x.1.n, .int .i64 x.1.f, .int .i64 x.1.l, .int .i64 x.1.s, .int .i64 x.1.e] 105)) := (Later.refl W).alloc _
      exact hK _ _ ((KeepsOthers.alloc _ _).from _) (KB.of_later hl hk.1) ⟨hm.alloc _, hk.later hl, hb.trans (hl.mono hb.size)⟩ ⟨W.heap.size, hk.1, by unfold ScAt; simp, rfl⟩
    case body1 =>
      rintro l pre x a' W hl ⟨rr, hr⟩ ⟨hm, hk, hb⟩ ⟨Bx, hBx, hcx, rfl⟩ hlt
      obtain ⟨x0, x1, x2, x3, x4⟩ := hcx
      have hbx := cell_lt x0
      have HM := Lib.hid hm; have HK := Lib.hid hk; have HB := Lib.hid hb
      have v0 : W.cell? ⟨W2.heap.size, 0, none⟩ = some (.int .i64 0) := by rw [hk.cell (by omega) (by omega)]; exact HV.out.c0
      have v1 : W.cell? ⟨W2.heap.size, 1, none⟩ = some (.int .i64 z2) := by rw [hk.cell (by omega) (by omega)]; exact HV.out.c1
      have v2 : W.cell? ⟨w.heap.size + 1 + 1, 0, none⟩ = some (.map (some (w.heap.size + 1))) := by rw [hk.cell (by omega) (by omega)]; exact HV.out.cv
      obtain ⟨⟨n0, n1⟩, ⟨s0, s1⟩, e0, e1⟩ := x.2
      clear hm hk hb
      gi_wp2_with fail
      refine ⟨trivial, ?_⟩
      refine (CallsIn.inRound l (callsIn_wide.2 (i_common 0 z2 x.1.s (x.1.s + x.1.e - 1) W (by omega) (by omega) (by omega) (by omega) (by omega) (by omega) (by omega) (by omega)))).mono ?_
      rintro e w3 ⟨rfl, hb3⟩
      have H3 := Lib.hid hb3
      have y0 : w3.cell? ⟨Bx, 0, none⟩ = some (.int .i64 x.1.n) := by rw [hb3.cell (p := ⟨Bx, 0, none⟩) hbx]; exact x0
      have y2 : w3.cell? ⟨w.heap.size + 1 + 1, 0, none⟩ = some (.map (some (w.heap.size + 1))) := by rw [hb3.cell (p := ⟨w.heap.size + 1 + 1, 0, none⟩) (cell_lt v2)]; exact v2
      have M3 := Lib.hid ((HM.out.kept (later_grows hb3 none) (by simp)).alloc (.cells #[.int .i64 (max 0 x.1.s), .int .i64 (min z2 (x.1.s + x.1.e - 1))] 91))
      have hby := cell_lt y0; have hvy := cell_lt y2
      clear hb3 x0 x1 x2 x3 x4 v0 v1 v2
      by_cases hh : max 0 x.1.s ≤ min z2 (x.1.s + x.1.e - 1)
      · have HH : Hid (hit 0 z2 x.1 = true) := Lib.hid (by unfold hit; simpa using hh)
        generalize hmx : max 0 x.1.s = mx at hh M3 ⊢
        generalize hmn : min z2 (x.1.s + x.1.e - 1) = mn at hh M3 ⊢
        clear hmx hmn
        have HC : Hid (((kk r z ((uptoB L F m).map Subtype.val)) ++ kk 0 z2 (pre.map Subtype.val)).length < maxLen) := Lib.hid (by
          have := kk_len 0 z2 (pre.map Subtype.val)
          rw [List.length_map] at this
          rw [List.length_append]
          have ha : (kk r z ((uptoB L F m).map Subtype.val)).length ≤ 8 := by have := kk_len r z ((uptoB L F m).map Subtype.val); rw [List.length_map, uptoB_len] at this; omega
          unfold maxLen; omega)
        have hkey := Maps.keyOf_int_mk Try.underlying2 (wf64 (n := x.1.n) (by omega) (by omega))
        gi_wp2_with (gi_at_mapUpdate; refine wpListIn_mapUpdate_own _ rfl _ _ _ 97 rfl 2 4 (Maps.int_keyed Try.underlying2) Try.underlying97 _ (w.heap.size + 1) _ _ rfl M3.out HC.out _ _ _ rfl rfl hkey _ [] (plainElem_bool Try.underlying4 true) ?_; intro w4 hown1 hgrow1)
        obtain ⟨q1, q2, q3, q4⟩ := body_end HK.out HB.out H3.out hgrow1 (fun j e => by cases e; rfl) (by omega) (by omega)
        exact ⟨q1, q2, by rw [(om_yes (H := H) _ HH.out).1, (om_yes (H := H) _ HH.out).2]; exact hown1, q3, q4⟩
      · have HH : Hid (hit 0 z2 x.1 = false) := Lib.hid (by unfold hit; simpa using hh)
        have hh' : min z2 (x.1.s + x.1.e - 1) < max 0 x.1.s := by omega
        generalize hmx : max 0 x.1.s = mx at hh hh' M3 ⊢
        generalize hmn : min z2 (x.1.s + x.1.e - 1) = mn at hh hh' M3 ⊢
        clear hmx hmn
        gi_wp2_with fail
        obtain ⟨q1, q2, q3, q4⟩ := body_end (row := none) HK.out HB.out H3.out ⟨rfl, rfl, rfl, Nat.le_refl _, fun _ _ _ => rfl⟩ (fun j e => by cases e) (by omega) (by omega)
        exact ⟨q1, q2, by rw [om_no _ HH.out]; exact M3.out, q3, q4⟩
    case done1 =>
      rintro D1 ys W3 hD1 rfl ⟨hm, hk, hb⟩ hK1
      have M2 : Hid (W3.ownsMap Try.prog 2 (plainElem (H := H) Try.prog 4) (w.heap.size + 1) ((kk r z ((uptoB L F m).map Subtype.val)) ++ kk 0 z2 ((uptoB L F m).map Subtype.val)).length (setOf uT ((kk r z ((uptoB L F m).map Subtype.val)) ++ kk 0 z2 ((uptoB L F m).map Subtype.val)))) := Lib.hid hm
      have W3L : Hid (Later w W3) := Lib.hid hb
      have hDV : D0 < V1.heap.size := by omega
      have hK0 : W3.heap[D0]? = some (.deferred (some [])) := by rw [hk.2 D0 hDV (by omega)]; rw [show V1.heap[D0]? = W2.heap[D0]? from LV1.out.block D0 hDl]; exact HK0.out
      have c11' : W3.cell? ⟨w.heap.size + 1 + 1, 0, none⟩ = some (.map (some (w.heap.size + 1))) := by rw [hk.cell (by omega) (by omega)]; exact HV.out.cv
      have hkk3 := hk.1
      clear hm hb hk c5 c11 HV
      gi_wp2_with fail
      rw [roundsIn_succ]
      gi_wp2_with fail
      have hne : D0 ≠ D1 := by omega
      refine ⟨by simp, .inl ⟨_, _, rfl, run_takeDeferred hK1, ?_⟩⟩
      have hK0b : (W3.putObj D1 (.deferred none)).heap[D0]? = some (.deferred (some [])) := (World.putObj_heap_other hne).trans hK0
      refine ⟨by simp, .inl ⟨_, _, rfl, run_takeDeferred hK0b, ?_⟩⟩
      refine ⟨_, results_tmp rfl _ _ _, w.heap.size + 1, _, _, rfl, (M2.out.kept (grownBy_putObj' _ D1 _) (fun e => by cases e; omega)).kept (grownBy_putObj' _ D0 _) (fun e => by cases e; omega), by omega, ?_, occ_has ⟨HBK.out, HFL.out⟩ HT.out HR.out HZ.out HZ2.out, ?_⟩
      · have := kk_len r z ((uptoB L F m).map Subtype.val)
        have := kk_len 0 z2 ((uptoB L F m).map Subtype.val)
        rw [List.length_map, uptoB_len] at *
        rw [List.length_append]; omega
      · have k1 := belowK_b (w := w) (Nat.le_refl _) W3 D1 _ (.deferred none) (by omega) hK1 rfl rfl
        have k0 := belowK_b (w := w) (Nat.le_refl _) (W3.putObj D1 (.deferred none)) D0 _ (.deferred none) (by omega) hK0b rfl rfl
        exact (Below.trans W3L.out k1).trans k0
end Go.Proofs.Ytehinlecppbjeaa
namespace Go.Proofs
open Go.Shelf
def Try.keysI_ren : Go.Shelf.Ren := ⟨fun | 7 => 92 | 10 => 132 | n => n, fun | 23 => 97 | 26 => 2 | 3 => 4 | 28 => 102 | 0 => 0 | 27 => 101 | 33 => 108 | 4 => 4 | n => n, fun | n => n⟩
theorem Try.keysI : Go.Proofs.SlLaysZI.n7 Try.prog Try.keysI_ren := {
  mixed := by kernel_rfl
  f7 := ⟨Try.f92.name, by decide, Try.func92.trans (congrArg some (by kernel_rfl))⟩
  f10 := ⟨Try.f132.name, by decide, Try.func132.trans (congrArg some (by kernel_rfl))⟩
  t0 := Try.underlying0
  a0 := Try.isAgg0
  z0 := Try.sizeOf0
  v0 := Try.zeroValue0
  t4 := Try.underlying4
  a4 := Try.isAgg4
  z4 := Try.sizeOf4
  v4 := Try.zeroValue4
  t23 := Try.underlying97
  a23 := Try.isAgg97
  z23 := Try.sizeOf97
  v23 := Try.zeroValue97
  t26 := Try.underlying2
  a26 := Try.isAgg2
  z26 := Try.sizeOf2
  v26 := Try.zeroValue2
  t27 := Try.underlying101
  a27 := Try.isAgg101
  z27 := Try.sizeOf101
  v27 := Try.zeroValue101
  t28 := Try.underlying102
  a28 := Try.isAgg102
  z28 := Try.sizeOf102
  v28 := Try.zeroValue102
  t33 := Try.underlying108
  a33 := Try.isAgg108
  z33 := Try.sizeOf108
  v33 := Try.zeroValue108 }
def Try.sortedI_ren : Go.Shelf.Ren := ⟨fun | 6 => 91 | 8 => 130 | 9 => 131 | 11 => 147 | 13 => 149 | 12 => 148 | 23 => 163 | 24 => 164 | 14 => 154 | 15 => 155 | 16 => 156 | 17 => 157 | 18 => 158 | 19 => 159 | 20 => 160 | 21 => 161 | 22 => 162 | 25 => 167 | 26 => 168 | 27 => 169 | 28 => 170 | 29 => 171 | 30 => 172 | 31 => 173 | n => n, fun | 26 => 2 | 28 => 102 | 24 => 38 | 0 => 0 | 3 => 3 | 37 => 85 | 48 => 174 | 50 => 33 | 4 => 4 | 40 => 167 | 39 => 166 | 45 => 171 | 5 => 5 | 9 => 9 | 51 => 176 | 55 => 180 | 57 => 182 | 58 => 183 | 33 => 108 | n => n, fun | n => n⟩
theorem Try.sortedI : Go.Proofs.SlLaysZI.n6 Try.prog Try.sortedI_ren := {
  mixed := by kernel_rfl
  f6 := ⟨Try.f91.name, by decide, Try.func91.trans (congrArg some (by kernel_rfl))⟩
  f8 := ⟨Try.f130.name, by decide, Try.func130.trans (congrArg some (by kernel_rfl))⟩
  f11 := ⟨Try.f147.name, by decide, Try.func147.trans (congrArg some (by kernel_rfl))⟩
  t0 := Try.underlying0
  a0 := Try.isAgg0
  z0 := Try.sizeOf0
  v0 := Try.zeroValue0
  t24 := Try.underlying38
  a24 := Try.isAgg38
  z24 := Try.sizeOf38
  v24 := Try.zeroValue38
  t26 := Try.underlying2
  a26 := Try.isAgg2
  z26 := Try.sizeOf2
  v26 := Try.zeroValue2
  t28 := Try.underlying102
  a28 := Try.isAgg102
  z28 := Try.sizeOf102
  v28 := Try.zeroValue102
  i26 := by kernel_rfl }
def Try.sortI_ren : Go.Shelf.Ren := ⟨fun | 5 => 131 | 8 => 149 | 7 => 148 | 19 => 163 | 20 => 164 | 10 => 154 | 11 => 155 | 12 => 156 | 13 => 157 | 14 => 158 | 15 => 159 | 16 => 160 | 17 => 161 | 18 => 162 | 30 => 167 | 31 => 168 | 32 => 169 | 33 => 170 | 34 => 171 | 35 => 172 | 40 => 173 | n => n, fun | 23 => 38 | 25 => 2 | 3 => 3 | 32 => 85 | 22 => 38 | 0 => 0 | 44 => 174 | 46 => 33 | 4 => 4 | 36 => 167 | 35 => 166 | 41 => 171 | 5 => 5 | 9 => 9 | 53 => 176 | 57 => 180 | 63 => 182 | 64 => 183 | n => n, fun | n => n⟩
theorem Try.sortI : Go.Proofs.SlLaysM.n5 Try.prog Try.sortI_ren := {
  mixed := by kernel_rfl
  f5 := ⟨Try.f131.name, by decide, Try.func131.trans (congrArg some (by kernel_rfl))⟩
  f7 := ⟨Try.f148.name, by decide, Try.func148.trans (congrArg some (by kernel_rfl))⟩
  f8 := Try.func149.trans (congrArg some (by kernel_rfl))
  f10 := ⟨Try.f154.name, by decide, Try.func154.trans (congrArg some (by kernel_rfl))⟩
  f11 := ⟨Try.f155.name, by decide, Try.func155.trans (congrArg some (by kernel_rfl))⟩
  f12 := ⟨Try.f156.name, by decide, Try.func156.trans (congrArg some (by kernel_rfl))⟩
  f13 := ⟨Try.f157.name, by decide, Try.func157.trans (congrArg some (by kernel_rfl))⟩
  f14 := ⟨Try.f158.name, by decide, Try.func158.trans (congrArg some (by kernel_rfl))⟩
  f15 := ⟨Try.f159.name, by decide, Try.func159.trans (congrArg some (by kernel_rfl))⟩
  f16 := ⟨Try.f160.name, by decide, Try.func160.trans (congrArg some (by kernel_rfl))⟩
  f17 := ⟨Try.f161.name, by decide, Try.func161.trans (congrArg some (by kernel_rfl))⟩
  f18 := ⟨Try.f162.name, by decide, Try.func162.trans (congrArg some (by kernel_rfl))⟩
  f19 := Try.func163.trans (congrArg some (by kernel_rfl))
  f20 := Try.func164.trans (congrArg some (by kernel_rfl))
  f30 := ⟨Try.f167.name, by decide, Try.func167.trans (congrArg some (by kernel_rfl))⟩
  f31 := Try.func168.trans (congrArg some (by kernel_rfl))
  f32 := Try.func169.trans (congrArg some (by kernel_rfl))
  f33 := ⟨Try.f170.name, by decide, Try.func170.trans (congrArg some (by kernel_rfl))⟩
  f34 := ⟨Try.f171.name, by decide, Try.func171.trans (congrArg some (by kernel_rfl))⟩
  f35 := ⟨Try.f172.name, by decide, Try.func172.trans (congrArg some (by kernel_rfl))⟩
  f40 := ⟨Try.f173.name, by decide, Try.func173.trans (congrArg some (by kernel_rfl))⟩
  t0 := Try.underlying0
  a0 := Try.isAgg0
  z0 := Try.sizeOf0
  v0 := Try.zeroValue0
  t3 := Try.underlying3
  a3 := Try.isAgg3
  z3 := Try.sizeOf3
  v3 := Try.zeroValue3
  t4 := Try.underlying4
  a4 := Try.isAgg4
  z4 := Try.sizeOf4
  v4 := Try.zeroValue4
  t5 := Try.underlying5
  a5 := Try.isAgg5
  z5 := Try.sizeOf5
  v5 := Try.zeroValue5
  t9 := Try.underlying9
  a9 := Try.isAgg9
  z9 := Try.sizeOf9
  v9 := Try.zeroValue9
  t22 := Try.underlying38
  a22 := Try.isAgg38
  z22 := Try.sizeOf38
  v22 := Try.zeroValue38
  t23 := Try.underlying38
  a23 := Try.isAgg38
  z23 := Try.sizeOf38
  v23 := Try.zeroValue38
  t25 := Try.underlying2
  a25 := Try.isAgg2
  z25 := Try.sizeOf2
  v25 := Try.zeroValue2
  t32 := Try.underlying85
  a32 := Try.isAgg85
  z32 := Try.sizeOf85
  v32 := Try.zeroValue85
  t35 := Try.underlying166
  a35 := Try.isAgg166
  z35 := Try.sizeOf166
  v35 := Try.zeroValue166
  t36 := Try.underlying167
  a36 := Try.isAgg167
  z36 := Try.sizeOf167
  v36 := Try.zeroValue167
  t41 := Try.underlying171
  a41 := Try.isAgg171
  z41 := Try.sizeOf171
  v41 := Try.zeroValue171
  t44 := Try.underlying174
  a44 := Try.isAgg174
  z44 := Try.sizeOf174
  v44 := Try.zeroValue174
  t46 := Try.underlying33
  a46 := Try.isAgg33
  z46 := Try.sizeOf33
  v46 := Try.zeroValue33
  t53 := Try.underlying176
  a53 := Try.isAgg176
  z53 := Try.sizeOf176
  v53 := Try.zeroValue176
  t57 := Try.underlying180
  a57 := Try.isAgg180
  z57 := Try.sizeOf180
  v57 := Try.zeroValue180
  t63 := Try.underlying182
  a63 := Try.isAgg182
  z63 := Try.sizeOf182
  v63 := Try.zeroValue182
  t64 := Try.underlying183
  a64 := Try.isAgg183
  z64 := Try.sizeOf183
  v64 := Try.zeroValue183 }
end Go.Proofs
namespace Go.Proofs.Ytehinlecppbjeaa
open Go.RowKit Go.Shelf Go.Maps
set_option maxHeartbeats 4000000
set_option linter.unusedVariables false
set_option linter.unusedSimpArgs false
theorem ocK_pw (L : List Sg) (F : List Int) (p q : Int) (k : Nat) : (ocK L F p q k).Pairwise (· < ·) := by
  unfold ocK
  rw [List.pairwise_map]
  refine List.Pairwise.filter _ ?_
  exact List.pairwise_lt_range.imp (fun h => by omega)
theorem ocK_nodup (L : List Sg) (F : List Int) (p q : Int) (k : Nat) : (ocK L F p q k).Nodup := (ocK_pw L F p q k).imp (fun h => by omega)
theorem ocK_sort (L : List Sg) (F : List Int) (p q : Int) (k : Nat) : (ocK L F p q k).mergeSort (fun x y => decide (x ≤ y)) = ocK L F p q k :=
  List.mergeSort_of_pairwise ((ocK_pw L F p q k).imp (fun h => by simp; omega))
theorem occ_perm {H : Type} {w : World} {L : List Sg} {F : List Int} {p q : Int} {b k : Nat} {D : DataW H} (hown : w.ownsMap Try.prog 2 (plainElem (H := H) Try.prog 4) b k D) (hD : OccD L F p q D) :
    (ocK L F p q F.length).Perm (intKeys D) := by
  have hc : CollectedI D (fun _ => false) (ocK L F p q F.length) := ⟨ocK_nodup _ _ _ _ _, fun x => by rw [hD.2.2]; simp⟩
  exact hc.perm hown (Maps.int_keyed Try.underlying2) Try.underlying2 (fun _ => rfl)
theorem occ_size {H : Type} {w : World} {L : List Sg} {F : List Int} {p q : Int} {b k : Nat} {D : DataW H} (hown : w.ownsMap Try.prog 2 (plainElem (H := H) Try.prog 4) b k D) (hD : OccD L F p q D) :
    Maps.size D ≤ F.length := by
  have h := (occ_perm hown hD).length_eq
  obtain ⟨es, rfl, _⟩ := hown.keysOf
  have h2 := ocK_len L F p q F.length
  rw [h] at h2
  simpa [intKeys, Maps.size] using h2
theorem i_keysOf (mb : Option Nat) (w : World) : Calls Try.prog 92 #[.map mb] w fun e w' => e = .returned (.func (.func 132) #[] #[.pointer (some ⟨w.heap.size, 0, none⟩)]) ∧ w' = w.alloc (.cells #[.map mb] 97) :=
  (callsIn_wide (n := 5)).1 (AnyZI.keys_in Try.keysI Fence.wide 5 trivial rfl mb w)
theorem i_sorts (m : Nat) : AnyZI.SortsIn Try.prog Try.sortedI_ren Fence.wide m :=
  ⟨fun blk off cap ss W hH hblk hsz => callsIn_wide.2 (AnyM.slices_Sort_int Try.sortI blk off cap ss W hH hblk hsz),
   fun p cap W => callsIn_wide.2 (AnyM.slices_Sort_int_none Try.sortI p cap W)⟩
theorem i_sortedOf {H : Type} (L : List Sg) (F : List Int) (p q : Int) (b k : Nat) (D : DataW H) (g : Nat) (w : World) (hown : w.ownsMap Try.prog 2 (plainElem (H := H) Try.prog 4) b k D) (hD : OccD L F p q D) (hF : F.length ≤ 1000) (hg : w.cell? ⟨g, 0, none⟩ = some (.map (some b))) :
    Calls Try.prog 91 #[.func (.func 132) #[] #[.pointer (some ⟨g, 0, none⟩)]] w fun e w' => ∃ v, e = .returned v ∧ Own w' w.heap.size v (ocK L F p q F.length) ∧ Below w.heap.size w w' := by
  have hsz := occ_size hown hD
  have hseq : SeqGives Fence.wide 2 Try.prog 132 #[.pointer (some ⟨g, 0, none⟩)] encZ (fun ss => ss.Perm (intKeys D)) (Maps.size D) w :=
    AnyZI.keys_gives (ρ := Try.keysI_ren) { Try.keysI with } Fence.wide _ trivial rfl (by omega) g b k D _ (cell_lt hg) hg hown
  have cS := AnyZI.sorted_in Try.sortedI Fence.wide 5 trivial trivial trivial trivial rfl (by omega) (i_sorts _) (enters_of Try.func131 (by kernel_rfl) rfl) 132 #[.pointer (some ⟨g, 0, none⟩)] trivial (enters_of Try.func132 (by kernel_rfl) rfl) _ _ (by unfold maxLen; omega) (by omega) _ hseq
  refine ((callsIn_wide (n := 5)).1 cS).mono ?_
  rintro e w' ⟨v, ss, rfl, hS, hrow, hnil, hb⟩
  have e1 : ss.mergeSort (fun x y => decide (x ≤ y)) = ocK L F p q F.length := (mergeSort_of_perm_i (hS.trans (occ_perm hown hD).symm)).trans (ocK_sort L F p q F.length)
  have e2 : ss.length = (ocK L F p q F.length).length := (hS.trans (occ_perm hown hD).symm).length_eq
  refine ⟨v, rfl, ⟨?_, fun x hx => ?_⟩, hb⟩
  · rw [e1, e2] at hrow; exact hrow
  · have := ocK_rng L F p q F.length x hx; exact ⟨by omega, by omega⟩
theorem i_trackOfBlocks (a : Option Addr) (n cap : Nat) (L : List Sg) (A : Option Addr) (m capF : Nat) (F : List Int) (w : World) (hs : Sgs w a n L) (hf : Sl w A m F) (hcF : m ≤ capF) :
    Calls Try.prog 88 #[.agg #[.slice a n cap], .slice A m capF] w fun e w' => e = .returned (.tuple #[.int .i64 (if bkB L F = true then totL L else 0), .int .i64 (if bkB L F = true then 0 else 1)]) ∧ Later w w' := by
  have HS := Lib.hid hs; have HF := Lib.hid hf
  clear hs hf
  cases hb : bkB L F
  · go_enter Try.func88, Try.ntmps88
    go_wp2_with (go_at_call 57; refine (i_AreBlocks a n cap L A m capF F _ (HS.out.later (by repeat (first | (with_reducible exact Later.refl _) | (with_reducible exact Hid.out (by assumption)) | (with_reducible refine Later.alloc ?_ _) | (with_reducible refine Later.setCell ?_ (by simp; omega) _) | (with_reducible refine Later.setCell ?_ (by simp) _) | (with_reducible refine Later.drewN ?_ _) | (with_reducible refine Later.drew ?_) | (with_reducible refine Later.trans ?_ (Hid.out (by assumption)))))) (HF.out.later (by repeat (first | (with_reducible exact Later.refl _) | (with_reducible exact Hid.out (by assumption)) | (with_reducible refine Later.alloc ?_ _) | (with_reducible refine Later.setCell ?_ (by simp; omega) _) | (with_reducible refine Later.setCell ?_ (by simp) _) | (with_reducible refine Later.drewN ?_ _) | (with_reducible refine Later.drew ?_) | (with_reducible refine Later.trans ?_ (Hid.out (by assumption)))))) hcF).mono ?_; rw [hb]; rintro e w1 ⟨rfl, hb1⟩; have H1 := Lib.hid hb1; clear hb1)
    go_ret2
    exact ⟨by simp, (by repeat (first | (with_reducible exact Later.refl _) | (with_reducible exact Hid.out (by assumption)) | (with_reducible refine Later.alloc ?_ _) | (with_reducible refine Later.setCell ?_ (by simp; omega) _) | (with_reducible refine Later.setCell ?_ (by simp) _) | (with_reducible refine Later.drewN ?_ _) | (with_reducible refine Later.drew ?_) | (with_reducible refine Later.trans ?_ (Hid.out (by assumption)))))⟩
  · have HV := Lib.hid (bkB_lay hb).1
    go_enter Try.func88, Try.ntmps88
    go_wp2_with fail
    refine (i_AreBlocks a n cap L A m capF F _ (HS.out.later (by repeat (first | (with_reducible exact Later.refl _) | (with_reducible exact Hid.out (by assumption)) | (with_reducible refine Later.alloc ?_ _) | (with_reducible refine Later.setCell ?_ (by simp; omega) _) | (with_reducible refine Later.setCell ?_ (by simp) _) | (with_reducible refine Later.drewN ?_ _) | (with_reducible refine Later.drew ?_) | (with_reducible refine Later.trans ?_ (Hid.out (by assumption)))))) (HF.out.later (by repeat (first | (with_reducible exact Later.refl _) | (with_reducible exact Hid.out (by assumption)) | (with_reducible refine Later.alloc ?_ _) | (with_reducible refine Later.setCell ?_ (by simp; omega) _) | (with_reducible refine Later.setCell ?_ (by simp) _) | (with_reducible refine Later.drewN ?_ _) | (with_reducible refine Later.drew ?_) | (with_reducible refine Later.trans ?_ (Hid.out (by assumption)))))) hcF).mono ?_
    rw [hb]
    rintro e w1 ⟨rfl, hb1⟩
    have c1 : w1.cell? ⟨w.heap.size, 0, none⟩ = some (.slice a n cap) := by rw [hb1.cell (p := ⟨w.heap.size, 0, none⟩) (by simp)]; simp
    have H1 := Lib.hid hb1
    clear hb1
    go_wp2_with fail
    refine (i_TL_ok a n cap L _ (HS.out.later (by repeat (first | (with_reducible exact Later.refl _) | (with_reducible exact Hid.out (by assumption)) | (with_reducible refine Later.alloc ?_ _) | (with_reducible refine Later.setCell ?_ (by simp; omega) _) | (with_reducible refine Later.setCell ?_ (by simp) _) | (with_reducible refine Later.drewN ?_ _) | (with_reducible refine Later.drew ?_) | (with_reducible refine Later.trans ?_ (Hid.out (by assumption)))))) HV.out).mono ?_
    rintro e w2 ⟨rfl, hb2⟩
    have H2 := Lib.hid hb2
    clear hb2
    go_wp2_with fail
    go_ret2
    exact ⟨by simp, (by repeat (first | (with_reducible exact Later.refl _) | (with_reducible exact Hid.out (by assumption)) | (with_reducible refine Later.alloc ?_ _) | (with_reducible refine Later.setCell ?_ (by simp; omega) _) | (with_reducible refine Later.setCell ?_ (by simp) _) | (with_reducible refine Later.drewN ?_ _) | (with_reducible refine Later.drew ?_) | (with_reducible refine Later.trans ?_ (Hid.out (by assumption)))))⟩
set_option maxRecDepth 100000 in
theorem i_OccupiedBlocks (a : Option Addr) (n cap : Nat) (L : List Sg) (A : Option Addr) (m capF : Nat) (F : List Int) (p q : Int) (w : World) (hs : Sgs w a n L) (hf : Sl w A m F) (hcn : n ≤ cap) (hcF : m ≤ capF) (hp : InR p) :
    Calls Try.prog 37 #[.agg #[.slice a n cap], .slice A m capF, .int .i64 p, .int .i64 q] w (GivesC w (ocV L F p q) (ocE L F p q)) := by
  have HS := Lib.hid hs; have HF := Lib.hid hf; have HP := Lib.hid hp
  have HM := Lib.hid hf.1
  clear hs hf hp
  cases hb : bkB L F
  · have HT : Hid (ocV L F p q = [] ∧ ocE L F p q = 1) := Lib.hid (by
      have : ocE L F p q = 1 := by unfold ocE; rw [hb]; simp
      unfold ocV; rw [this]; simp)
    go_enter Try.func37, Try.ntmps37
    go_wp2_with fail
    refine (i_trackOfBlocks a n cap L A m capF F _ (HS.out.later (by repeat (first | (with_reducible exact Later.refl _) | (with_reducible exact Hid.out (by assumption)) | (with_reducible refine Later.alloc ?_ _) | (with_reducible refine Later.setCell ?_ (by simp; omega) _) | (with_reducible refine Later.setCell ?_ (by simp) _) | (with_reducible refine Later.drewN ?_ _) | (with_reducible refine Later.drew ?_) | (with_reducible refine Later.trans ?_ (Hid.out (by assumption)))))) (HF.out.later (by repeat (first | (with_reducible exact Later.refl _) | (with_reducible exact Hid.out (by assumption)) | (with_reducible refine Later.alloc ?_ _) | (with_reducible refine Later.setCell ?_ (by simp; omega) _) | (with_reducible refine Later.setCell ?_ (by simp) _) | (with_reducible refine Later.drewN ?_ _) | (with_reducible refine Later.drew ?_) | (with_reducible refine Later.trans ?_ (Hid.out (by assumption)))))) hcF).mono ?_
    rw [hb]
    rintro e w1 ⟨rfl, hb1⟩
    have H1 := Lib.hid hb1
    clear hb1
    go_wp2_with fail
    go_ret2
    exact ⟨.slice none 0 0, by rw [HT.out.2]; rfl, by rw [HT.out.1]; exact own_none _ _, (by repeat (first | (with_reducible exact Later.refl _) | (with_reducible exact Hid.out (by assumption)) | (with_reducible refine Later.alloc ?_ _) | (with_reducible refine Later.setCell ?_ (by simp; omega) _) | (with_reducible refine Later.setCell ?_ (by simp) _) | (with_reducible refine Later.drewN ?_ _) | (with_reducible refine Later.drew ?_) | (with_reducible refine Later.trans ?_ (Hid.out (by assumption)))))⟩
  · have HBK := Lib.hid hb
    have hv := (bkB_lay hb).1
    have HV := Lib.hid hv
    obtain ⟨t1, t2⟩ := tot_bd hv
    have hm8 : F.length ≤ 8 := ((bkC_iff L F).1 (bkB_lay hb).2).2.1
    have HTR : Hid (ocE L F p q = trE L p q) := Lib.hid (by unfold ocE; rw [hb]; simp)
    cases ht : trsB (totL L) q [p]
    · have HT : Hid (ocV L F p q = [] ∧ ocE L F p q = 2) := Lib.hid (by
        have : ocE L F p q = 2 := by rw [HTR.out]; unfold trE; rw [hv, ht]; simp
        unfold ocV; rw [this]; simp)
      go_enter Try.func37, Try.ntmps37
      go_wp2_with fail
      refine (i_trackOfBlocks a n cap L A m capF F _ (HS.out.later (by repeat (first | (with_reducible exact Later.refl _) | (with_reducible exact Hid.out (by assumption)) | (with_reducible refine Later.alloc ?_ _) | (with_reducible refine Later.setCell ?_ (by simp; omega) _) | (with_reducible refine Later.setCell ?_ (by simp) _) | (with_reducible refine Later.drewN ?_ _) | (with_reducible refine Later.drew ?_) | (with_reducible refine Later.trans ?_ (Hid.out (by assumption)))))) (HF.out.later (by repeat (first | (with_reducible exact Later.refl _) | (with_reducible exact Hid.out (by assumption)) | (with_reducible refine Later.alloc ?_ _) | (with_reducible refine Later.setCell ?_ (by simp; omega) _) | (with_reducible refine Later.setCell ?_ (by simp) _) | (with_reducible refine Later.drewN ?_ _) | (with_reducible refine Later.drew ?_) | (with_reducible refine Later.trans ?_ (Hid.out (by assumption)))))) hcF).mono ?_
      rw [hb]
      rintro e w1 ⟨rfl, hb1⟩
      have H1 := Lib.hid hb1
      clear hb1
      go_wp2_with fail
      refine (i_areTrains (totL L) q _ 1 1 [p] _ (sl_one _ _ _ HP.out)).mono ?_
      rw [ht]
      rintro e w2 ⟨rfl, rfl⟩
      go_wp2_with fail
      go_ret2
      exact ⟨.slice none 0 0, by rw [HT.out.2]; rfl, by rw [HT.out.1]; exact own_none _ _, (by repeat (first | (with_reducible exact Later.refl _) | (with_reducible exact Hid.out (by assumption)) | (with_reducible refine Later.alloc ?_ _) | (with_reducible refine Later.setCell ?_ (by simp; omega) _) | (with_reducible refine Later.setCell ?_ (by simp) _) | (with_reducible refine Later.drewN ?_ _) | (with_reducible refine Later.drew ?_) | (with_reducible refine Later.trans ?_ (Hid.out (by assumption)))))⟩
    · have HT : Hid (ocV L F p q = ocK L F p q F.length ∧ ocE L F p q = 0) := Lib.hid (by
        have : ocE L F p q = 0 := by rw [HTR.out]; unfold trE; rw [hv, ht]; simp
        unfold ocV; rw [this]; simp)
      have h3 := ht
      rw [trsB_one, Bool.and_eq_true] at h3
      obtain ⟨n1, n2, n3⟩ := (isN_iff _ _).1 h3.1
      obtain ⟨p1, p2⟩ := (isP_iff _ _).1 h3.2
      clear h3
      go_enter Try.func37, Try.ntmps37
      go_wp2_with fail
      refine (i_trackOfBlocks a n cap L A m capF F _ (HS.out.later (by repeat (first | (with_reducible exact Later.refl _) | (with_reducible exact Hid.out (by assumption)) | (with_reducible refine Later.alloc ?_ _) | (with_reducible refine Later.setCell ?_ (by simp; omega) _) | (with_reducible refine Later.setCell ?_ (by simp) _) | (with_reducible refine Later.drewN ?_ _) | (with_reducible refine Later.drew ?_) | (with_reducible refine Later.trans ?_ (Hid.out (by assumption)))))) (HF.out.later (by repeat (first | (with_reducible exact Later.refl _) | (with_reducible exact Hid.out (by assumption)) | (with_reducible refine Later.alloc ?_ _) | (with_reducible refine Later.setCell ?_ (by simp; omega) _) | (with_reducible refine Later.setCell ?_ (by simp) _) | (with_reducible refine Later.drewN ?_ _) | (with_reducible refine Later.drew ?_) | (with_reducible refine Later.trans ?_ (Hid.out (by assumption)))))) hcF).mono ?_
      rw [hb]
      rintro e w1 ⟨rfl, hb1⟩
      have c1 : w1.cell? ⟨w.heap.size, 0, none⟩ = some (.slice a n cap) := by rw [hb1.cell (p := ⟨w.heap.size, 0, none⟩) (by simp)]; simp
      have H1 := Lib.hid hb1
      have hz1 := cell_lt c1
      clear hb1
      go_wp2_with fail
      refine (i_areTrains (totL L) q _ 1 1 [p] _ (sl_one _ _ _ HP.out)).mono ?_
      rw [ht]
      rintro e w2 ⟨rfl, rfl⟩
      clear ht hb
      go_wp2_with fail
      refine (i_occupiedBy (H := Unit) a n cap L A m capF F p q _ (HS.out.later (by repeat (first | (with_reducible exact Later.refl _) | (with_reducible exact Hid.out (by assumption)) | (with_reducible refine Later.alloc ?_ _) | (with_reducible refine Later.setCell ?_ (by simp; omega) _) | (with_reducible refine Later.setCell ?_ (by simp) _) | (with_reducible refine Later.drewN ?_ _) | (with_reducible refine Later.drew ?_) | (with_reducible refine Later.trans ?_ (Hid.out (by assumption)))))) (HF.out.later (by repeat (first | (with_reducible exact Later.refl _) | (with_reducible exact Hid.out (by assumption)) | (with_reducible refine Later.alloc ?_ _) | (with_reducible refine Later.setCell ?_ (by simp; omega) _) | (with_reducible refine Later.setCell ?_ (by simp) _) | (with_reducible refine Later.drewN ?_ _) | (with_reducible refine Later.drew ?_) | (with_reducible refine Later.trans ?_ (Hid.out (by assumption)))))) hcn hcF HBK.out p1 p2 n1 n3).mono ?_
      rintro e w3 ⟨b, k, D, rfl, hown, hbz, hk, hD, hb3⟩
      have H3 : Hid (Later w w3) := Lib.hid (Later.trans (by repeat (first | (with_reducible exact Later.refl _) | (with_reducible exact Hid.out (by assumption)) | (with_reducible refine Later.alloc ?_ _) | (with_reducible refine Later.setCell ?_ (by simp; omega) _) | (with_reducible refine Later.setCell ?_ (by simp) _) | (with_reducible refine Later.drewN ?_ _) | (with_reducible refine Later.drew ?_) | (with_reducible refine Later.trans ?_ (Hid.out (by assumption))))) hb3)
      have O3 := Lib.hid hown
      clear hown hb3
      go_wp2_with fail
      refine (i_keysOf (some b) _).mono ?_
      rintro e w4 ⟨rfl, rfl⟩
      go_wp2_with fail
      refine (i_sortedOf L F p q b k D w3.heap.size _ (O3.out.alloc _) hD (by omega) (by simp)).mono ?_
      rintro e w5 ⟨v, rfl, ho, hb5⟩
      have O5 := Lib.hid ho
      have H5 := Lib.hid hb5
      clear ho hb5
      have W5 : Hid (Later w w5) := Lib.hid ((H3.out.alloc _).trans H5.out)
      go_wp2_with fail
      go_ret2
      refine ⟨v, by rw [HT.out.2]; rfl, ?_, W5.out⟩
      rw [HT.out.1]
      exact ⟨ownsRow_base_a O5.out.1 (by have := H3.out.size; simp; omega), O5.out.2⟩
end Go.Proofs.Ytehinlecppbjeaa
namespace Go.Proofs.Ytehinlecppbjeaa
open Go.RowKit Go.Shelf Go.Maps
set_option maxHeartbeats 4000000
set_option linter.unusedVariables false
set_option linter.unusedSimpArgs false
theorem plainElem_bool_inv {H : Type} {P : Program} {e : TypeId} (he : P.underlying e = some .bool) {v : Value} {z : DataW H × List MemPlace} (h : plainElem P e v = some z) : ∃ c, v = .bool c := by
  unfold plainElem at h
  rw [he] at h
  cases v <;> simp at h
  exact ⟨_, rfl⟩
/-- the keys that have come -/
def doneF {H : Type} (D : DataW H) (left : Lit → Bool) (c : Nat) : Bool := has D (.int .i64 c) && !left (.int .i64 c)
theorem doneF_0 {H : Type} (D : DataW H) : doneF D (has D) = fun _ => false := by funext c; simp [doneF]
theorem doneF_step {H : Type} {D : DataW H} {left : Lit → Bool} {x : Nat} (hh : has D (.int .i64 x) = true) (c : Nat) : doneF D (fun z => left z && !z.sameKey (.int .i64 x)) c = (doneF D left c || c == x) := by
  unfold doneF
  by_cases e : c = x
  · subst e; simp [hh, Lit.sameKey]
  · have e2 : ¬ ((c : Int) = (x : Int)) := by omega
    simp [Lit.sameKey, e, e2]
theorem doneF_no {H : Type} {D : DataW H} {left : Lit → Bool} {x : Nat} (hl : left (.int .i64 x) = true) : doneF D left x = false := by simp [doneF, hl]
theorem doneF_all {H : Type} {L : List Sg} {F : List Int} {p q : Int} {D : DataW H} {left : Lit → Bool} (hD : OccD L F p q D) (hl : ∀ kl, left kl = false) (c : Nat) (hc : c < F.length) : doneF D left c = ocB L F p q c := by
  unfold doneF
  rw [hl, Bool.not_false, Bool.and_true, Bool.eq_iff_iff, hD.2.2, ocK_mem]
  constructor
  · rintro ⟨b, e, _, h⟩; have : c = b := by omega
    rw [this]; exact h
  · intro h; exact ⟨c, rfl, hc, h⟩
theorem Own.keptN {w w' : World} {base g n cap : Nat} {l : List Int} {row : Option Nat} (h : Own w base (.slice (some ⟨g, 0, none⟩) n cap) l) (hg : w.grownBy w' row) (hr : row ≠ some g) : Own w' base (.slice (some ⟨g, 0, none⟩) n cap) l :=
  ⟨h.1.kept hg (.inr (fun e => hr e.symm)), h.2⟩
set_option maxRecDepth 100000 in
theorem i_BlockLoads (a : Option Addr) (n cap : Nat) (L : List Sg) (A : Option Addr) (m capF : Nat) (F : List Int) (aP : Option Addr) (mP capP : Nat) (P : List Int) (q : Int) (w : World) (hs : Sgs w a n L) (hf : Sl w A m F) (hp : Sl w aP mP P) (hcn : n ≤ cap) (hcF : m ≤ capF) :
    Calls Try.prog 34 #[.agg #[.slice a n cap], .slice A m capF, .slice aP mP capP, .int .i64 q] w (GivesC w (ldV L F P q) (ldE L F P q)) := by
  have HS := Lib.hid hs; have HF := Lib.hid hf; have HM := Lib.hid hf.1; have HP := Lib.hid hp; have HMP := Lib.hid hp.1
  have KB : Hid (∀ W', Later (w.alloc (.cells #[.slice a n cap] 26)) W' → W'.cell? ⟨w.heap.size, 0, none⟩ = some (.slice a n cap)) := Lib.hid (fun W' k => by rw [k.cell (p := ⟨w.heap.size, 0, none⟩) (by simp)]; simp)
  have hmp := hp.2.1
  clear hs hf hp
  cases hb : bkB L F
  · have HT : Hid (ldV L F P q = [] ∧ ldE L F P q = 1) := Lib.hid (by
      have : ldE L F P q = 1 := by unfold ldE; rw [hb]; simp
      unfold ldV; rw [this]; simp)
    go_enter Try.func34, Try.ntmps34
    go_wp2_with fail
    refine (i_trackOfBlocks a n cap L A m capF F _ (HS.out.later (by repeat (first | (with_reducible exact Later.refl _) | (with_reducible exact Hid.out (by assumption)) | (with_reducible refine Later.alloc ?_ _) | (with_reducible refine Later.setCell ?_ (by simp; omega) _) | (with_reducible refine Later.setCell ?_ (by simp) _) | (with_reducible refine Later.drewN ?_ _) | (with_reducible refine Later.drew ?_) | (with_reducible refine Later.trans ?_ (Hid.out (by assumption)))))) (HF.out.later (by repeat (first | (with_reducible exact Later.refl _) | (with_reducible exact Hid.out (by assumption)) | (with_reducible refine Later.alloc ?_ _) | (with_reducible refine Later.setCell ?_ (by simp; omega) _) | (with_reducible refine Later.setCell ?_ (by simp) _) | (with_reducible refine Later.drewN ?_ _) | (with_reducible refine Later.drew ?_) | (with_reducible refine Later.trans ?_ (Hid.out (by assumption)))))) hcF).mono ?_
    rw [hb]
    rintro e w1 ⟨rfl, hb1⟩
    have c1 := KB.out w1 hb1
    have H1 := Lib.hid hb1
    clear hb1
    go_wp2_with fail
    go_ret2
    exact ⟨.slice none 0 0, by rw [HT.out.2]; rfl, by rw [HT.out.1]; exact own_none _ _, (by repeat (first | (with_reducible exact Later.refl _) | (with_reducible exact Hid.out (by assumption)) | (with_reducible refine Later.alloc ?_ _) | (with_reducible refine Later.setCell ?_ (by simp; omega) _) | (with_reducible refine Later.setCell ?_ (by simp) _) | (with_reducible refine Later.drewN ?_ _) | (with_reducible refine Later.drew ?_) | (with_reducible refine Later.trans ?_ (Hid.out (by assumption)))))⟩
  have HB := Lib.hid hb
  have hv := (bkB_lay hb).1
  have HV := Lib.hid hv
  have hm8 : m ≤ 8 := by have := ((bkC_iff L F).1 (bkB_lay hb).2).2.1; rw [HM.out] at this; exact this
  by_cases h4 : 4 < mP
  · have HT : Hid (ldV L F P q = [] ∧ ldE L F P q = 3) := Lib.hid (by
      have : ldE L F P q = 3 := by unfold ldE; rw [hb, if_pos rfl, if_neg (by rw [HMP.out]; omega)]
      unfold ldV; rw [this]; simp)
    clear hv
    go_enter Try.func34, Try.ntmps34
    go_wp2_with fail
    refine (i_trackOfBlocks a n cap L A m capF F _ (HS.out.later (by repeat (first | (with_reducible exact Later.refl _) | (with_reducible exact Hid.out (by assumption)) | (with_reducible refine Later.alloc ?_ _) | (with_reducible refine Later.setCell ?_ (by simp; omega) _) | (with_reducible refine Later.setCell ?_ (by simp) _) | (with_reducible refine Later.drewN ?_ _) | (with_reducible refine Later.drew ?_) | (with_reducible refine Later.trans ?_ (Hid.out (by assumption)))))) (HF.out.later (by repeat (first | (with_reducible exact Later.refl _) | (with_reducible exact Hid.out (by assumption)) | (with_reducible refine Later.alloc ?_ _) | (with_reducible refine Later.setCell ?_ (by simp; omega) _) | (with_reducible refine Later.setCell ?_ (by simp) _) | (with_reducible refine Later.drewN ?_ _) | (with_reducible refine Later.drew ?_) | (with_reducible refine Later.trans ?_ (Hid.out (by assumption)))))) hcF).mono ?_
    rw [hb]
    rintro e w1 ⟨rfl, hb1⟩
    have c1 := KB.out w1 hb1
    have H1 := Lib.hid hb1
    clear hb1
    go_wp2_with fail
    go_ret2
    exact ⟨.slice none 0 0, by rw [HT.out.2]; rfl, by rw [HT.out.1]; exact own_none _ _, (by repeat (first | (with_reducible exact Later.refl _) | (with_reducible exact Hid.out (by assumption)) | (with_reducible refine Later.alloc ?_ _) | (with_reducible refine Later.setCell ?_ (by simp; omega) _) | (with_reducible refine Later.setCell ?_ (by simp) _) | (with_reducible refine Later.drewN ?_ _) | (with_reducible refine Later.drew ?_) | (with_reducible refine Later.trans ?_ (Hid.out (by assumption)))))⟩
  cases ht : trsB (totL L) q P
  · have HT : Hid (ldV L F P q = [] ∧ ldE L F P q = 2) := Lib.hid (by
      have : ldE L F P q = 2 := by unfold ldE; rw [hb, if_pos rfl, if_pos (by rw [HMP.out]; omega), ht]; simp
      unfold ldV; rw [this]; simp)
    clear hv
    go_enter Try.func34, Try.ntmps34
    go_wp2_with fail
    refine (i_trackOfBlocks a n cap L A m capF F _ (HS.out.later (by repeat (first | (with_reducible exact Later.refl _) | (with_reducible exact Hid.out (by assumption)) | (with_reducible refine Later.alloc ?_ _) | (with_reducible refine Later.setCell ?_ (by simp; omega) _) | (with_reducible refine Later.setCell ?_ (by simp) _) | (with_reducible refine Later.drewN ?_ _) | (with_reducible refine Later.drew ?_) | (with_reducible refine Later.trans ?_ (Hid.out (by assumption)))))) (HF.out.later (by repeat (first | (with_reducible exact Later.refl _) | (with_reducible exact Hid.out (by assumption)) | (with_reducible refine Later.alloc ?_ _) | (with_reducible refine Later.setCell ?_ (by simp; omega) _) | (with_reducible refine Later.setCell ?_ (by simp) _) | (with_reducible refine Later.drewN ?_ _) | (with_reducible refine Later.drew ?_) | (with_reducible refine Later.trans ?_ (Hid.out (by assumption)))))) hcF).mono ?_
    rw [hb]
    rintro e w1 ⟨rfl, hb1⟩
    have c1 := KB.out w1 hb1
    have H1 := Lib.hid hb1
    clear hb1
    go_wp2_with fail
    refine (i_areTrains (totL L) q aP mP capP P _ (sl_lat HP.out (by repeat (first | (with_reducible exact Later.refl _) | (with_reducible exact Hid.out (by assumption)) | (with_reducible refine Later.alloc ?_ _) | (with_reducible refine Later.setCell ?_ (by simp; omega) _) | (with_reducible refine Later.setCell ?_ (by simp) _) | (with_reducible refine Later.drewN ?_ _) | (with_reducible refine Later.drew ?_) | (with_reducible refine Later.trans ?_ (Hid.out (by assumption))))))).mono ?_
    rw [ht]
    rintro e w2 ⟨rfl, rfl⟩
    go_wp2_with fail
    go_ret2
    exact ⟨.slice none 0 0, by rw [HT.out.2]; rfl, by rw [HT.out.1]; exact own_none _ _, (by repeat (first | (with_reducible exact Later.refl _) | (with_reducible exact Hid.out (by assumption)) | (with_reducible refine Later.alloc ?_ _) | (with_reducible refine Later.setCell ?_ (by simp; omega) _) | (with_reducible refine Later.setCell ?_ (by simp) _) | (with_reducible refine Later.drewN ?_ _) | (with_reducible refine Later.drew ?_) | (with_reducible refine Later.trans ?_ (Hid.out (by assumption)))))⟩
  · have HT : Hid (ldV L F P q = ldK L F P q mP ∧ ldE L F P q = 0) := Lib.hid (by
      have : ldE L F P q = 0 := by unfold ldE; rw [hb, if_pos rfl, if_pos (by rw [HMP.out]; omega), ht]; simp
      unfold ldV; rw [this, HMP.out]; simp)
    have h3 := ht
    unfold trsB at h3
    rw [Bool.and_eq_true] at h3
    obtain ⟨n1, n2, n3⟩ := (isN_iff _ _).1 h3.1
    have HAL : Hid (∀ k, k < mP → 0 ≤ gx P k ∧ gx P k < totL L) := Lib.hid (fun k hk => allP_at h3.2 k (by rw [HMP.out]; exact hk))
    have K0 : Hid (ldK L F P q 0 = List.replicate m 0) := Lib.hid (by unfold ldK; rw [HM.out, List.map_congr_left (g := fun _ => (0 : Int)) (fun b _ => ldN_0 L F P q b)]; simp [List.map_const'])
    obtain ⟨i0, hi, hz0, hz1, hz2⟩ := info_parts info_i64
    have HI := Lib.hid hi; clear hi
    have HZ0 := Lib.hid hz0; clear hz0
    have HZ1 := Lib.hid hz1; clear hz1
    have HZ2 := Lib.hid hz2; clear hz2
    clear hv h3
    go_enter Try.func34, Try.ntmps34
    go_wp2_with fail
    refine (i_trackOfBlocks a n cap L A m capF F _ (HS.out.later (by repeat (first | (with_reducible exact Later.refl _) | (with_reducible exact Hid.out (by assumption)) | (with_reducible refine Later.alloc ?_ _) | (with_reducible refine Later.setCell ?_ (by simp; omega) _) | (with_reducible refine Later.setCell ?_ (by simp) _) | (with_reducible refine Later.drewN ?_ _) | (with_reducible refine Later.drew ?_) | (with_reducible refine Later.trans ?_ (Hid.out (by assumption)))))) (HF.out.later (by repeat (first | (with_reducible exact Later.refl _) | (with_reducible exact Hid.out (by assumption)) | (with_reducible refine Later.alloc ?_ _) | (with_reducible refine Later.setCell ?_ (by simp; omega) _) | (with_reducible refine Later.setCell ?_ (by simp) _) | (with_reducible refine Later.drewN ?_ _) | (with_reducible refine Later.drew ?_) | (with_reducible refine Later.trans ?_ (Hid.out (by assumption)))))) hcF).mono ?_
    rw [hb]
    rintro e w1 ⟨rfl, hb1⟩
    have c1 := KB.out w1 hb1
    have H1 := Lib.hid hb1
    clear hb1
    go_wp2_with fail
    refine (i_areTrains (totL L) q aP mP capP P _ (sl_lat HP.out (by repeat (first | (with_reducible exact Later.refl _) | (with_reducible exact Hid.out (by assumption)) | (with_reducible refine Later.alloc ?_ _) | (with_reducible refine Later.setCell ?_ (by simp; omega) _) | (with_reducible refine Later.setCell ?_ (by simp) _) | (with_reducible refine Later.drewN ?_ _) | (with_reducible refine Later.drew ?_) | (with_reducible refine Later.trans ?_ (Hid.out (by assumption))))))).mono ?_
    rw [ht]
    rintro e w2 ⟨rfl, rfl⟩
    clear ht hb
    go_wp2_with (at_make; go_must (refine wpList_make_full _ rfl _ _ _ rfl w1.heap.size 2 i0 (.int .i64 0) 1 Try.underlying38 HI.out HZ0.out HZ1.out _ _ _ _ m rfl rfl (by omega) (by omega) (by rw [HZ2.out]; omega) (by unfold maxLen; omega) (Nat.le_refl _) ?_; intro w3 hown hgrow; have c11 : True := trivial))
    have O3 : Hid (Own w3 w1.heap.size (.slice (some ⟨w1.heap.size, 0, none⟩) m m) (ldK L F P q 0)) := Lib.hid (by
      rw [K0.out]
      refine ⟨?_, fun x hx => by rw [List.eq_of_mem_replicate hx]; exact ⟨by omega, by omega⟩⟩
      have := toList_madeCells_one (.int .i64 0) m
      simpa [Value.cells, this] using hown)
    have Z3 : Hid (Later w1 w3) := Lib.hid ((Below.refl _ _).grown hgrow (Nat.le_refl _) (by simp))
    clear hown hgrow c11 c1
    go_loopw [38] (fun i wr => ∃ k : Nat, k ≤ mP ∧ i = .int .i64 k ∧ Own wr w1.heap.size (.slice (some ⟨w1.heap.size, 0, none⟩) m m) (ldK L F P q k) ∧ Later w1 wr) (fun i _ => mP - (intOf i).toNat)
    case atStart => exact ⟨0, by omega, rfl, O3.out, Z3.out⟩
    case round =>
      obtain ⟨k, hk, rfl, ho, hlw⟩ := hrel
      have O4 := Lib.hid ho
      have HW2 := Lib.hid hlw
      have HW : Hid (Later w wr) := Lib.hid ((((Later.refl _).alloc _).trans H1.out).trans hlw)
      have cb := KB.out wr (H1.out.trans hlw)
      have hgr := (ho.1.lt w1.heap.size rfl).2
      clear ho hlw
      by_cases hlt : k < mP
      · obtain ⟨bP, oP, rfl, cP⟩ := (sl_lat HP.out HW.out).at k hlt
        obtain ⟨g0, g1⟩ := HAL.out k hlt
        go_wp2_with fail
        refine (i_occupiedBy (H := Unit) a n cap L A m capF F (gx P k) q _ (HS.out.later HW.out) (HF.out.later HW.out) hcn hcF HB.out g0 g1 n1 n3).mono ?_
        rintro e w4 ⟨b, kk, D, rfl, hown, hbz, hkk, hD, hb4⟩
        have O5 := Lib.hid (O4.out.lat hb4)
        have HW4 := Lib.hid (HW2.out.trans hb4)
        have M4 := Lib.hid hown
        have HDD := Lib.hid hD
        have hz4 := Later.size hb4
        clear hown hD hb4 cP cb
        go_wp2_with (first
          | (at_range; refine wpList_range_own _ rfl _ 97 rfl 2 4 (Maps.int_keyed Try.underlying2) Try.underlying97 _ b kk D rfl M4.out ?_; intro w5 hrg0 hg0 hs0)
          | go_in)
        have R5 := Lib.hid hrg0
        have O6 := Lib.hid (O5.out.keptN hg0 (by simp))
        have HW5 : Hid (Later w1 w5) := Lib.hid (Below.grown HW4.out hg0 HW4.out.size (by simp))
        clear hrg0 hg0 hs0
        go_frame
        go_loopw [15] (fun _ wx => ∃ (left : Lit → Bool) (cnt : Nat), wx.ranges Try.prog 2 (plainElem (H := Unit) Try.prog 4) b w4.heap.size kk D left cnt ∧ Own wx w1.heap.size (.slice (some ⟨w1.heap.size, 0, none⟩) m m) (ldQ L F P q k (doneF D left)) ∧ Later w1 wx ∧ (∀ kl, left kl = true → has D kl = true)) (fun _ wx => wx.rangeLeft b w4.heap.size)
        case atStart => exact ⟨_, _, R5.out, by rw [doneF_0, ldQ_none]; exact O6.out, HW5.out, fun _ h => h⟩
        case round =>
          obtain ⟨wx, rfl⟩ : ∃ wx, wx = wr := ⟨_, rfl⟩
          obtain ⟨left, cnt, hrg, ho, hlx, hlf⟩ := hrel
          have R6 := Lib.hid hrg
          have O7 := Lib.hid ho
          have HX := Lib.hid hlx
          have HLF := Lib.hid hlf
          clear hrg ho hlx hlf
          go_wp2_with (first
            | (at_next; refine wpList_next_ranges _ rfl _ rfl 2 (Maps.int_keyed Try.underlying2) (plainElem (H := Unit) Try.prog 4) (Value.int .i64) Value.bool (fun key kl hkey => by obtain ⟨x, rfl, _⟩ := Maps.keyOf_int_inv Try.underlying2 hkey; exact ⟨x, rfl⟩) (fun v y hv => plainElem_bool_inv Try.underlying4 hv) b w4.heap.size kk _ _ _ rfl R6.out ?_ ?_)
            | go_in)
          · intro _ hl0
            have O8 : Hid (Own wx w1.heap.size (.slice (some ⟨w1.heap.size, 0, none⟩) m m) (ldK L F P q (k + 1))) := Lib.hid (by rw [← ldQ_all (fun c hc => doneF_all HDD.out hl0 c hc)]; exact O7.out)
            clear hl0
            go_wp2_with fail
            go_roundw
            case rel => exact ⟨k + 1, by omega, by go_num, O8.out, HX.out⟩
            case measure => simp [intOf]; omega
          · intro x
            refine ⟨?_, ?_⟩
            all_goals
              intro kl yd yp w6 cnt2 hkey hlk hv hat hrg2 hlt2 hg2 hs2 hen
              obtain ⟨x', ex, rfl, _⟩ := Maps.keyOf_int_inv Try.underlying2 hkey
              cases ex
              have hhas := HLF.out _ hlk
              obtain ⟨xn, hx, hxm, _⟩ := (ocK_mem _ _ _ _ _ _).1 ((HDD.out.2.2 x).1 hhas)
              subst hx
              have HXF := Lib.hid hxm
              obtain ⟨v0, v1⟩ := ldQ_bd L F P q k (doneF D left) xn hxm
              have O8 := Lib.hid (O7.out.keptN hg2 (by intro e; have := Option.some.inj e; omega))
              have cR := O8.out.cellAt (by rw [ldQ_len]; exact HM.out) xn (by rw [ldQ_len]; exact hxm)
              have fR : w6.frozen? ⟨w1.heap.size, xn, none⟩ = false := O8.out.frozenAt (by rw [ldQ_len]; exact HM.out) xn
              have HSET := Lib.hid (ldQ_set (L := L) (P := P) (n := q) (i := k) hxm (doneF_no hlk) (fun c _ => doneF_step hhas c))
              have R8 := Lib.hid hrg2
              have HX6 : Hid (Later w1 w6) := Lib.hid (Below.grown HX.out hg2 HX.out.size (fun j e => by cases e; omega))
              have HLF6 : Hid (∀ kl, (left kl && !kl.sameKey (.int .i64 xn)) = true → has D kl = true) := Lib.hid (fun kl h => HLF.out kl (by rw [Bool.and_eq_true] at h; exact h.1))
              have HLT := Lib.hid hlt2
              have hxm2 : xn < m := by rw [← HM.out]; exact hxm
              obtain ⟨y, hy⟩ : ∃ y, y = gx (ldQ L F P q k (doneF D left)) xn := ⟨_, rfl⟩
              rw [← hy] at v0 v1 cR HSET
              clear hy hhas hlk hv hat hrg2 hlt2 hg2 hs2 hkey hxm
              go_wp2_with fail
              go_roundw
              case rel => exact ⟨_, cnt2, R8.out.kept (grown_set _ _ _ _) (by intro e; have := Option.some.inj e; omega) (by intro e; have := Option.some.inj e; omega), by rw [← HSET.out]; exact O8.out.set (by rw [ldQ_len]; exact HM.out) xn (y + 1) ⟨by omega, by omega⟩, HX6.out.setCell (p := ⟨w1.heap.size, xn, none⟩) (Nat.le_refl _) _, HLF6.out⟩
              case measure =>
                rw [(R8.out.kept (grown_set _ _ _ _) (by intro e; have := Option.some.inj e; omega) (by intro e; have := Option.some.inj e; omega)).left_eq, R6.out.left_eq]; exact HLT.out
      · obtain rfl : k = mP := by omega
        go_wp2
        go_ret2
        exact ⟨_, by rw [HT.out.2]; rfl, by rw [HT.out.1]; exact O4.out.mono (by have := H1.out.size; rw [World.size_alloc] at this; omega), HW.out⟩
end Go.Proofs.Ytehinlecppbjeaa
namespace Go.Proofs.Ytehinlecppbjeaa
open Go.RowKit
set_option maxHeartbeats 4000000
set_option linter.unusedVariables false
set_option linter.unusedSimpArgs false
theorem bel_lt3 {w w' : World} (h : Below w.heap.size w w') : Later w w' := h
theorem l_hasInt (a : Option Addr) (n cap : Nat) (l : List Int) (x : Int) (w : World) (hs : Sl w a n l) (hx : x ∈ l) :
    Calls Try.prog 40 #[.slice a n cap, .int .i64 x] w fun e w' => e = .returned (.bool true) ∧ Later w w' := by
  have hn := hs.1
  have HS := Lib.hid hs
  have hn' := hs.2.1
  obtain ⟨j, hj, hjx⟩ := List.mem_iff_getElem.1 hx
  rw [← gx_of l j hj] at hjx
  have HJ := Lib.hid hjx
  have hjn : j < n := by omega
  clear hs hx hjx hn
  go_enter Try.func40, Try.ntmps40
  go_wp2
  go_loopw [5] (fun i wr => ∃ k : Nat, k ≤ j ∧ i = .int .i64 k ∧ Later w wr) (fun i _ => n - (intOf i).toNat)
  case atStart => exact ⟨0, by omega, rfl, Later.refl _⟩
  case round =>
    obtain ⟨k, hk, rfl, hlw⟩ := hrel
    have HW := Lib.hid hlw
    clear hlw
    have hkn : k < n := by omega
    obtain ⟨b1, o1, rfl, c1⟩ := (sl_lat HS.out HW.out).at k hkn
    by_cases e : gx l k = x
    · rw [e] at c1
      clear e
      go_wp2
      go_ret
      exact ⟨rfl, HW.out⟩
    · have hkj : k < j := by
        by_cases h : k = j
        · rw [h, HJ.out] at e; exact absurd rfl e
        · omega
      have d : (gx l k == x) = false := by simpa using e
      clear e
      go_wp2
      go_roundw
      case rel => exact ⟨k + 1, by omega, by go_num, HW.out⟩
      case measure => simp [intOf]; omega
theorem oc_in {L : List Sg} {F P : List Int} {q : Int} {m mP : Nat} (hM : F.length = m) (hP : P.length = mP) (h : ldE L F P q = 0) : bkB L F = true ∧ m ≤ 8 ∧ mP ≤ 4 ∧ ldV L F P q = ldK L F P q mP ∧
    ∀ k, k < mP → ocE L F (gx P k) q = 0 ∧ ocV L F (gx P k) q = ocK L F (gx P k) q m ∧ fndE L F (hasP (gx P k)) = 0 ∧ (fndC L F (hasP (gx P k))).n ∈ ocK L F (gx P k) q m := by
  subst hM hP
  obtain ⟨hb, h4, ht⟩ := ldE_ok h
  obtain ⟨hv, hk⟩ := bkB_lay hb
  refine ⟨hb, ((bkC_iff L F).1 hk).2.1, h4, by unfold ldV; rw [if_pos h], fun k hkP => ?_⟩
  unfold trsB at ht
  rw [Bool.and_eq_true] at ht
  obtain ⟨n1, n2, n3⟩ := (isN_iff _ _).1 ht.1
  have hp := allP_at ht.2 k hkP
  have he : ocE L F (gx P k) q = 0 := by unfold ocE; rw [if_pos hb]; exact trE_yes hv ht.1 ((isP_iff _ _).2 hp)
  obtain ⟨s, b, hat, hib, h1, h2⟩ := blk_some hb hp
  have hf := fndC_some hb (fnd_hasP hv hk hat hib)
  refine ⟨he, by unfold ocV; rw [if_pos he], hf.2, ?_⟩
  rw [hf.1]
  exact (ocK_mem _ _ _ _ _ _).2 ⟨b, rfl, hib.1, oc_front hb hp ⟨n1, n3⟩ ⟨h1, h2⟩⟩
set_option maxRecDepth 100000 in
theorem walk_FnOccupied (a0 : Option Addr) (len0 cap0 : Nat) (z0 : List Int) (w : World) (w0 : IsRow .u8 w a0 len0 cap0 z0) :
    Calls Try.prog 5 #[.slice a0 len0 cap0] w fun e w' => e = .returned (.bool true) ∧ Below w.heap.size w w' := by
  have HS := Lib.hid (isRow_bytes w0)
  clear w0
  by_cases hbig : 4096 < len0
  · go_enter Try.func5, Try.ntmps5
    go_wp2_with fail
    refine (l_big _ _ _ _).mono ?_
    rintro e w' ⟨rfl, rfl⟩
    go_wp2
    go_ret
    exact ⟨rfl, Below.refl _ _⟩
  go_enter Try.func5, Try.ntmps5
  go_wp2_with fail
  refine (l_big _ _ _ _).mono ?_
  rintro e w' ⟨rfl, rfl⟩
  go_wp2_with fail
  refine (s_DrawBlockLoads _ _ _ _ HS.out).mono ?_
  rintro e w1 ⟨a, n, cap, L, A, m, capF, F, aP, mP, capP, P, q, rfl, hl, hcap, hf, hmF, hm, hfP, hmP, hmP2, hq, bel⟩
  have L1 := Lib.hid hl
  have F1 := Lib.hid hf
  have P1 := Lib.hid hfP
  have HM := Lib.hid hf.1
  have HMP := Lib.hid hfP.1
  have HPR := Lib.hid (fun k (hk : k < mP) => hfP.rng k hk)
  have B1 := Lib.hid (bel_lt3 bel)
  have KB : Hid (∀ W', Later (w1.alloc (.cells #[.slice a n cap] 26)) W' → W'.cell? ⟨w1.heap.size, 0, none⟩ = some (.slice a n cap)) := Lib.hid (fun W' k => by rw [k.cell (p := ⟨w1.heap.size, 0, none⟩) (by simp)]; simp)
  have X1 := Lib.hid (show Later w1 (w1.alloc (.cells #[.slice a n cap] 26)) from (Later.refl _).alloc _)
  have Y1 : Hid (Later (w1.alloc (.cells #[.slice a n cap] 26)) (w1.alloc (.cells #[.slice a n cap] 26))) := Lib.hid (Later.refl _)
  clear hl hf bel hbig hfP hq
  go_wp2_with fail
  refine (i_BlockLoads a n cap L A m capF F aP mP capP P q _ (L1.out.later X1.out) (sl_lat F1.out X1.out) (sl_lat P1.out X1.out) hcap hmF).mono ?_
  rintro e w2 ⟨v2, rfl, ho, hb⟩
  have Y2 := Lib.hid (Y1.out.trans hb)
  have c2 := KB.out w2 Y2.out
  obtain ⟨aX, kX, rfl, hsl, hkX, _⟩ := ho.rows
  have S2 := Lib.hid hsl
  clear hsl ho
  clear hb
  go_wp2_with fail
  refine (s_BlockLoads a n cap L A m capF F aP mP capP P q _ (L1.out.later (X1.out.trans Y2.out)) (sl_lat F1.out (X1.out.trans Y2.out)) (sl_lat P1.out (X1.out.trans Y2.out))).mono ?_
  rintro e w3 ⟨v3, rfl, ho, hb⟩
  have Y3 := Lib.hid (Y2.out.trans hb)
  have c3 := KB.out w3 Y3.out
  obtain ⟨aM, kM, rfl, hsl, _, _⟩ := ho.rows
  have S3 := Lib.hid hsl
  have S2b := Lib.hid (sl_lat S2.out hb)
  clear hsl ho S2
  clear hb c2
  go_wp2_with fail
  have e1 : (ldE L F P q != ldE L F P q) = false := by simp
  refine (l_likeInts aX aM _ kX _ kM (ldV L F P q) _ S2b.out S3.out).mono ?_
  rintro e w4 ⟨rfl, hb⟩
  have Y4 := Lib.hid (Y3.out.trans hb)
  have c4 := KB.out w4 Y4.out
  have SX := Lib.hid (sl_lat S2b.out hb)
  clear hb c3
  by_cases he : ldE L F P q = 0
  · obtain ⟨hb, hm8, hm4, hV, hall⟩ := oc_in HM.out HMP.out he
    rw [he]
    rw [hV] at SX ⊢
    have HB := Lib.hid hb
    have hkl : (ldK L F P q mP).length = m := by rw [ldK_len, HM.out]
    rw [hkl] at SX ⊢
    have HALL := Lib.hid hall
    have K0 : Hid (ldK L F P q 0 = List.replicate m 0) := Lib.hid (by unfold ldK; rw [HM.out, List.map_congr_left (g := fun _ => (0 : Int)) (fun b _ => ldN_0 L F P q b)]; simp [List.map_const'])
    obtain ⟨i0, hi, hz0, hz1, hz2⟩ := info_parts info_i64
    have HI := Lib.hid hi; clear hi
    have HZ0 := Lib.hid hz0; clear hz0
    have HZ1 := Lib.hid hz1; clear hz1
    have HZ2 := Lib.hid hz2; clear hz2
    have X4 := Lib.hid (X1.out.trans Y4.out)
    have W4 : Hid (Later w w4) := Lib.hid (B1.out.trans X4.out)
    clear he hb hV hkl hall hkX S3 S2b e1 Y3 Y2
    go_wp2_with (at_make; go_must (refine wpList_make_full _ rfl _ _ _ rfl w4.heap.size 2 i0 (.int .i64 0) 1 Try.underlying38 HI.out HZ0.out HZ1.out _ _ _ _ m rfl rfl (by omega) (by omega) (by rw [HZ2.out]; omega) (by unfold maxLen; omega) (Nat.le_refl _) ?_; intro w5 hown hgrow; have c11 : True := trivial))
    have O5 : Hid (Own w5 w4.heap.size (.slice (some ⟨w4.heap.size, 0, none⟩) m m) (ldK L F P q 0)) := Lib.hid (by
      rw [K0.out]
      refine ⟨?_, fun x hx => by rw [List.eq_of_mem_replicate hx]; exact ⟨by omega, by omega⟩⟩
      have := toList_madeCells_one (.int .i64 0) m
      simpa [Value.cells, this] using hown)
    have Z5 : Hid (Later w4 w5) := Lib.hid ((Below.refl _ _).grown hgrow (Nat.le_refl _) (by simp))
    clear hown hgrow c11 c4
    go_loopw [12] (fun i wr => ∃ k : Nat, k ≤ mP ∧ i = .int .i64 k ∧ Own wr w4.heap.size (.slice (some ⟨w4.heap.size, 0, none⟩) m m) (ldK L F P q k) ∧ Later w4 wr) (fun i _ => mP - (intOf i).toNat)
    case atStart => exact ⟨0, by omega, rfl, O5.out, Z5.out⟩
    case round =>
      obtain ⟨k, hk, rfl, ho, hlw⟩ := hrel
      have O6 := Lib.hid ho
      have HW4 := Lib.hid hlw
      have HX := Lib.hid (X4.out.trans hlw)
      have cb := KB.out wr (Y4.out.trans hlw)
      have hgr := (ho.1.lt w4.heap.size rfl).2
      clear ho hlw
      by_cases hlt : k < mP
      · obtain ⟨bP, oP, rfl, cP⟩ := (sl_lat P1.out HX.out).at k hlt
        obtain ⟨h1, h2, h3, h4⟩ := HALL.out k hlt
        have H1 := Lib.hid h1; have H2 := Lib.hid h2; have H3 := Lib.hid h3; have H4 := Lib.hid h4
        have HR := Lib.hid (HPR.out k hlt)
        have KK : Hid (∀ W', Later wr W' → W'.cell? ⟨w1.heap.size, 0, none⟩ = some (.slice a n cap) ∧ W'.cell? ⟨bP, oP + k, none⟩ = some (.int .i64 (gx P k))) := Lib.hid (fun W' j => ⟨by rw [j.cell (p := ⟨w1.heap.size, 0, none⟩) (cell_lt cb)]; exact cb, by rw [j.cell (p := ⟨bP, oP + k, none⟩) (cell_lt cP)]; exact cP⟩)
        clear h1 h2 h3 h4
        go_wp2_with fail
        go_region_held3 (fun w' => w'.cell? ⟨w1.heap.size, 0, none⟩ = some (.slice a n cap) ∧ w'.cell? ⟨bP, oP + k, none⟩ = some (.int .i64 (gx P k))) ((refine KK.out _ ?_; ((repeat (first | (with_reducible exact Later.refl _) | (with_reducible exact Hid.out (by assumption)) | (with_reducible refine Later.alloc ?_ _) | (with_reducible refine Later.setCell ?_ (by simp; omega) _) | (with_reducible refine Later.setCell ?_ (by simp) _) | (with_reducible refine Later.drewN ?_ _) | (with_reducible refine Later.drew ?_) | (with_reducible refine Later.trans ?_ (Hid.out (by assumption))))); done)))
          ((go_at_call 37; refine (i_OccupiedBlocks a n cap L A m capF F (gx P k) q _ (L1.out.later (Later.trans HX.out (by repeat (first | (with_reducible exact Later.refl _) | (with_reducible exact Hid.out (by assumption)) | (with_reducible refine Later.alloc ?_ _) | (with_reducible refine Later.setCell ?_ (by simp; omega) _) | (with_reducible refine Later.setCell ?_ (by simp) _) | (with_reducible refine Later.drewN ?_ _) | (with_reducible refine Later.drew ?_) | (with_reducible refine Later.trans ?_ (Hid.out (by assumption))))))) (sl_lat F1.out (Later.trans HX.out (by repeat (first | (with_reducible exact Later.refl _) | (with_reducible exact Hid.out (by assumption)) | (with_reducible refine Later.alloc ?_ _) | (with_reducible refine Later.setCell ?_ (by simp; omega) _) | (with_reducible refine Later.setCell ?_ (by simp) _) | (with_reducible refine Later.drewN ?_ _) | (with_reducible refine Later.drew ?_) | (with_reducible refine Later.trans ?_ (Hid.out (by assumption))))))) hcap hmF HR.out).mono ?_; rw [H1.out, H2.out]; rintro e w6 ⟨v6, rfl, hol, hb6⟩; have OL := Lib.hid hol; have H6 := Lib.hid hb6; clear hol hb6))
        all_goals
          have L6 : Later wr w6 := Later.trans (Later.refl _).drew H6.out
          obtain ⟨a6, k6, rfl, s6, hb6⟩ := OL.out.rowsO
          have S6 := Lib.hid s6
          have HL6 := Lib.hid L6
          have HX6 := Lib.hid (HX.out.trans L6)
          have KK6 : Hid (∀ W', Later w6 W' → W'.cell? ⟨w1.heap.size, 0, none⟩ = some (.slice a n cap) ∧ W'.cell? ⟨bP, oP + k, none⟩ = some (.int .i64 (gx P k))) := Lib.hid (fun W' j => KK.out W' (HL6.out.trans j))
          obtain ⟨d1, d2⟩ := KK6.out w6 (Later.refl _)
          clear OL H6 s6 hb6 L6 cb cP KK
          go_wp2_with fail
          go_region_held3 (fun w' => w'.cell? ⟨w1.heap.size, 0, none⟩ = some (.slice a n cap) ∧ w'.cell? ⟨bP, oP + k, none⟩ = some (.int .i64 (gx P k))) ((refine KK6.out _ ?_; ((repeat (first | (with_reducible exact Later.refl _) | (with_reducible exact Hid.out (by assumption)) | (with_reducible refine Later.alloc ?_ _) | (with_reducible refine Later.setCell ?_ (by simp; omega) _) | (with_reducible refine Later.setCell ?_ (by simp) _) | (with_reducible refine Later.drewN ?_ _) | (with_reducible refine Later.drew ?_) | (with_reducible refine Later.trans ?_ (Hid.out (by assumption))))); done)))
            ((go_at_call 38; refine (s_OccupiedBlocks a n cap L A m capF F (gx P k) q _ (L1.out.later (Later.trans HX6.out (by repeat (first | (with_reducible exact Later.refl _) | (with_reducible exact Hid.out (by assumption)) | (with_reducible refine Later.alloc ?_ _) | (with_reducible refine Later.setCell ?_ (by simp; omega) _) | (with_reducible refine Later.setCell ?_ (by simp) _) | (with_reducible refine Later.drewN ?_ _) | (with_reducible refine Later.drew ?_) | (with_reducible refine Later.trans ?_ (Hid.out (by assumption))))))) (sl_lat F1.out (Later.trans HX6.out (by repeat (first | (with_reducible exact Later.refl _) | (with_reducible exact Hid.out (by assumption)) | (with_reducible refine Later.alloc ?_ _) | (with_reducible refine Later.setCell ?_ (by simp; omega) _) | (with_reducible refine Later.setCell ?_ (by simp) _) | (with_reducible refine Later.drewN ?_ _) | (with_reducible refine Later.drew ?_) | (with_reducible refine Later.trans ?_ (Hid.out (by assumption)))))))).mono ?_; rw [H1.out, H2.out]; rintro e w7 ⟨v7, rfl, hol, hb7⟩; have OL := Lib.hid hol; have H7 := Lib.hid hb7; clear hol hb7))
          have L7 : Later w6 w7 := Later.trans (Later.refl _).drew H7.out
          obtain ⟨a7, k7, rfl, s7, hb7⟩ := OL.out.rowsO
          have S7 := Lib.hid s7
          have HL7 := Lib.hid (HL6.out.trans L7)
          have HX7 := Lib.hid (HX6.out.trans L7)
          have S6b := Lib.hid (sl_lat S6.out L7)
          have NB : Hid (∀ x, a7 = some x → x.block ≠ w4.heap.size) := Lib.hid (fun x hx => by
            have h1 := hb7 x hx
            have h2 := (Later.refl w6).drew.size
            have h3 := HL6.out.size
            omega)
          have KK7 : Hid (∀ W', Later w7 W' → W'.cell? ⟨w1.heap.size, 0, none⟩ = some (.slice a n cap) ∧ W'.cell? ⟨bP, oP + k, none⟩ = some (.int .i64 (gx P k))) := Lib.hid (fun W' j => KK6.out W' (L7.trans j))
          obtain ⟨d3, d4⟩ := KK7.out w7 (Later.refl _)
          clear OL H7 s7 hb7 L7 d1 d2 KK6 S6 HX6
          go_wp2_with fail
          go_region_held3 (fun w' => w'.cell? ⟨w1.heap.size, 0, none⟩ = some (.slice a n cap) ∧ w'.cell? ⟨bP, oP + k, none⟩ = some (.int .i64 (gx P k))) ((refine KK7.out _ ?_; ((repeat (first | (with_reducible exact Later.refl _) | (with_reducible exact Hid.out (by assumption)) | (with_reducible refine Later.alloc ?_ _) | (with_reducible refine Later.setCell ?_ (by simp; omega) _) | (with_reducible refine Later.setCell ?_ (by simp) _) | (with_reducible refine Later.drewN ?_ _) | (with_reducible refine Later.drew ?_) | (with_reducible refine Later.trans ?_ (Hid.out (by assumption))))); done)))
            ((go_at_call 39; refine (i_BlockAt a n cap L A m capF F (gx P k) _ (L1.out.later (Later.trans HX7.out (by repeat (first | (with_reducible exact Later.refl _) | (with_reducible exact Hid.out (by assumption)) | (with_reducible refine Later.alloc ?_ _) | (with_reducible refine Later.setCell ?_ (by simp; omega) _) | (with_reducible refine Later.setCell ?_ (by simp) _) | (with_reducible refine Later.drewN ?_ _) | (with_reducible refine Later.drew ?_) | (with_reducible refine Later.trans ?_ (Hid.out (by assumption))))))) (sl_lat F1.out (Later.trans HX7.out (by repeat (first | (with_reducible exact Later.refl _) | (with_reducible exact Hid.out (by assumption)) | (with_reducible refine Later.alloc ?_ _) | (with_reducible refine Later.setCell ?_ (by simp; omega) _) | (with_reducible refine Later.setCell ?_ (by simp) _) | (with_reducible refine Later.drewN ?_ _) | (with_reducible refine Later.drew ?_) | (with_reducible refine Later.trans ?_ (Hid.out (by assumption))))))) hcap hmF).mono ?_; rw [H3.out]; rintro e w8 ⟨rfl, hb8⟩; have H8 := Lib.hid hb8; clear hb8))
          have L8 : Later w7 w8 := Later.trans (Later.refl _).drew H8.out
          have HL8 := Lib.hid (HL7.out.trans L8)
          have S6c := Lib.hid (sl_lat S6b.out L8)
          have S7c := Lib.hid (sl_lat S7.out L8)
          have HOM : Hid (∀ x ∈ ocK L F (gx P k) q m, ∃ b : Nat, x = (b : Int) ∧ b < m) := Lib.hid (fun x hx => by obtain ⟨b, e, hb, _⟩ := (ocK_mem _ _ _ _ _ _).1 hx; exact ⟨b, e, hb⟩)
          have HND := Lib.hid (ocK_nodup' L F (gx P k) q m)
          have HAL2 : Hid (∀ b, b < F.length → fstJ (ocK L F (gx P k) q m) (ocK L F (gx P k) q m).length b = ocB L F (gx P k) q b) := Lib.hid (fun b hb => by have := fstJ_all (L := L) (F := F) (p := gx P k) (n := q) hb; rw [HM.out] at this; exact this)
          have hlen := ocK_len L F (gx P k) q m
          obtain ⟨l, hl⟩ : ∃ l, l = ocK L F (gx P k) q m := ⟨_, rfl⟩
          rw [← hl] at S6c S7c HOM HND HAL2 hlen H4 ⊢
          generalize (fndC L F (hasP (gx P k))).n = bn at H4 ⊢
          clear H8 hl KK7 d3 d4 L8 S6b S7 H1 H2 H3
          go_wp2_with fail
          refine (l_likeInts a6 a7 _ k6 _ k7 l _ S6c.out S7c.out).mono ?_
          rintro e w9 ⟨rfl, hb⟩
          have S9 := Lib.hid (sl_lat S7c.out hb)
          have HL9 := Lib.hid (HL8.out.trans hb)
          clear hb
          go_wp2_with fail
          refine (l_hasInt a7 _ k7 l bn _ S9.out H4.out).mono ?_
          rintro e w10 ⟨rfl, hb⟩
          have S10 := Lib.hid (sl_lat S9.out hb)
          have HL10 := Lib.hid (HW4.out.trans (HL9.out.trans hb))
          have O10 := Lib.hid (O6.out.lat (HL9.out.trans hb))
          clear hb S9 HL9 S7c S6c
          go_wp2_with fail
          go_loopw [19] (fun j wx => ∃ jn : Nat, jn ≤ l.length ∧ j = .int .i64 jn ∧ Own wx w4.heap.size (.slice (some ⟨w4.heap.size, 0, none⟩) m m) (ldQ L F P q k (fstJ l jn)) ∧ Sl wx a7 l.length l ∧ Later w4 wx) (fun j _ => l.length - (intOf j).toNat)
          case atStart => exact ⟨0, by omega, rfl, by rw [fstJ_0, ldQ_none]; exact O10.out, S10.out, HL10.out⟩
          case round =>
            obtain ⟨wx, rfl⟩ : ∃ wx, wx = wr := ⟨_, rfl⟩
            obtain ⟨jn, hj, rfl, ho, hs, hw⟩ := hrel
            have Q6 := Lib.hid ho
            have R6 := Lib.hid hs
            have HW6 := Lib.hid hw
            clear ho hs hw
            by_cases hjl : jn < l.length
            · obtain ⟨bB, oB, rfl, cB⟩ := R6.out.at jn hjl
              obtain ⟨x, hx, hxm⟩ := HOM.out (gx l jn) (gx_mem l jn hjl)
              have HX := Lib.hid hx
              rw [hx] at cB
              have hxF : x < F.length := by rw [HM.out]; exact hxm
              obtain ⟨v0, v1⟩ := ldQ_bd L F P q k (fstJ l jn) x hxF
              have cR := Q6.out.cellAt (by rw [ldQ_len]; exact HM.out) x (by rw [ldQ_len]; exact hxF)
              have fR : wx.frozen? ⟨w4.heap.size, x, none⟩ = false := Q6.out.frozenAt (by rw [ldQ_len]; exact HM.out) x
              have HSET := Lib.hid (ldQ_set (L := L) (P := P) (n := q) (i := k) hxF (fstJ_no HND.out hjl hx) (fun b _ => fstJ_succ l jn hjl x hx b))
              obtain ⟨y, hy⟩ : ∃ y, y = gx (ldQ L F P q k (fstJ l jn)) x := ⟨_, rfl⟩
              rw [← hy] at v0 v1 cR HSET
              clear hy hx hxF
              go_wp2_with fail
              go_roundw
              case rel => exact ⟨jn + 1, by omega, by go_num, by rw [← HSET.out]; exact Q6.out.set (by rw [ldQ_len]; exact HM.out) x (y + 1) ⟨by omega, by omega⟩, R6.out.farO _ _ _ NB.out, HW6.out.setCell (p := ⟨w4.heap.size, x, none⟩) (Nat.le_refl _) _⟩
              case measure => simp [intOf]; omega
            · obtain rfl : jn = l.length := by omega
              go_wp2_with fail
              go_roundw
              case rel => exact ⟨k + 1, by omega, by go_num, by rw [← ldQ_all HAL2.out]; exact Q6.out, HW6.out⟩
              case measure => simp [intOf]; omega
      · obtain rfl : k = mP := by omega
        have SN := Lib.hid (O6.out.sl3 (by rw [ldK_len]; exact HM.out)).1
        go_wp2_with fail
        refine (l_likeInts _ aX m m m kX (ldK L F P q k) _ SN.out (sl_lat SX.out HW4.out)).mono ?_
        rintro e w9 ⟨rfl, hb⟩
        have W9 := Lib.hid (B1.out.trans (HX.out.trans hb))
        clear hb
        go_wp2_with fail
        go_ret
        exact ⟨rfl, W9.out⟩
  · have d1 : (ldE L F P q != 0) = true := by simpa using he
    clear he
    go_wp2_with fail
    go_ret
    exact ⟨rfl, B1.out.trans (X1.out.trans Y4.out)⟩
end Go.Proofs.Ytehinlecppbjeaa
