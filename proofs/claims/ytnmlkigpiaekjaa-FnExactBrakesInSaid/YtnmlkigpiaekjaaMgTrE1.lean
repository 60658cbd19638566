/- Contracts of chapter 6: runs, and the energy that is needed: the model's functions. | Contracts of chapter 9: the brakes of a run, of the model. | Slices of int64 compared, as the exact laws do. | Small facts of the exact laws whose result is a slice of int64. | Copies of slices of segments, as the exact laws make them. | Small facts of the exact laws on layouts. | Marks that the exact laws write into lists of int64, and find again. | The walk of the exact law of chapter 9 on the brakes of a run. -/
import Derived.Test.YtnmlkigpiaekjaaEnP
import Derived.Test.YtnmlkigpiaekjaaEnS
import Derived.Test.YtnmlkigpiaekjaaSgU
import Derived.Deep.RegionWith
import Derived.Test.YtnmlkigpiaekjaaTrM
import Derived.Test.YtnmlkigpiaekjaaEnN
import Derived.Test.YtnmlkigpiaekjaaOwn
import Derived.Test.YtnmlkigpiaekjaaSgO
import Derived.Test.YtnmlkigpiaekjaaSl
import Derived.Test.YtnmlkigpiaekjaaLater
import Derived.Test.YtnmlkigpiaekjaaSgK
import Derived.OwnWalk
import Derived.Laws.OwnMore
import Derived.Test.YtnmlkigpiaekjaaTrL
import Derived.Test.YtnmlkigpiaekjaaMarkS
import Derived.Deep.RegionHeld3
namespace Go.Proofs.Ytnmlkigpiaekjaa
open Go.RowKit
set_option maxHeartbeats 4000000
set_option linter.unusedVariables false
set_option linter.unusedSimpArgs false
theorem s_Range (a : Option Addr) (n cap : Nat) (f c : Int) (b : Bool) (w : World) (hn : n ≤ 9223372036854775807) (h : ((decide (0 ≤ f) && decide (f ≤ (n : Int) - 1)) && (decide (0 ≤ c) && decide (c ≤ 24))) = b) :
    Calls Try.prog 39 #[.agg #[.slice a n cap], .int .i64 f, .int .i64 c] w fun e w' => e = .returned (.bool b) ∧ Later w w' := by
  subst h
  cases h1 : (decide (0 ≤ f) && decide (f ≤ (n : Int) - 1))
  all_goals
    have H1 := Lib.hid h1
    clear h1
  · go_enter Try.func39, Try.ntmps39
    go_wp2_with (go_at_call 73; refine (s_InB f 0 ((n : Int) - 1) false H1.out _).mono ?_; rintro e w' ⟨rfl, rfl⟩)
    go_ret
    exact ⟨by simp, (by repeat (first | (with_reducible exact Later.refl _) | (with_reducible exact Hid.out (by assumption)) | (with_reducible refine Later.alloc ?_ _) | (with_reducible refine Later.setCell ?_ (by simp; omega) _) | (with_reducible refine Later.setCell ?_ (by simp) _) | (with_reducible refine Later.drewN ?_ _) | (with_reducible refine Later.drew ?_) | (with_reducible refine Later.trans ?_ (Hid.out (by assumption)))))⟩
  · go_enter Try.func39, Try.ntmps39
    go_wp2_with fail
    refine (s_InB f 0 ((n : Int) - 1) true H1.out _).mono ?_
    rintro e w' ⟨rfl, rfl⟩
    go_wp2_with fail
    refine (s_In c 0 24 _).mono ?_
    rintro e w' ⟨rfl, rfl⟩
    go_wp2_with fail
    go_ret
    exact ⟨by simp, (by repeat (first | (with_reducible exact Later.refl _) | (with_reducible exact Hid.out (by assumption)) | (with_reducible refine Later.alloc ?_ _) | (with_reducible refine Later.setCell ?_ (by simp; omega) _) | (with_reducible refine Later.setCell ?_ (by simp) _) | (with_reducible refine Later.drewN ?_ _) | (with_reducible refine Later.drew ?_) | (with_reducible refine Later.trans ?_ (Hid.out (by assumption)))))⟩
theorem s_l06Segment (a : Option Addr) (n cap k : Nat) (L : List Sg) (w : World) (hs : Sgs w a n L) (hn : 0 < n) :
    Calls Try.prog 48 #[.agg #[.slice a n cap], .int .i64 (k : Int)] w fun e w' => e = .returned (.agg #[.int .i64 (sx L (k % n)).k, .int .i64 (sx L (k % n)).l, .int .i64 (sx L (k % n)).r, .int .i64 (sx L (k % n)).a, .int .i64 (sx L (k % n)).b, .int .i64 (sx L (k % n)).c, .int .i64 (sx L (k % n)).d]) ∧ Later w w' := by
  obtain ⟨r, hr⟩ : ∃ r, r = k % n := ⟨_, rfl⟩
  have hrn : r < n := by rw [hr]; exact Nat.mod_lt _ hn
  have hmod : (k : Int).tmod (n : Int) = (r : Int) := by rw [Int.tmod_eq_emod_of_nonneg (by omega), hr, Int.natCast_emod]
  rw [← hr]
  have hn0 : ¬ n = 0 := by omega
  have hnm := hs.2.1
  obtain ⟨b, off, rfl, hb, hcc⟩ := hs.at r hrn
  obtain ⟨c0, c1, c2, c3, c4, c5, c6⟩ := hcc
  generalize sx L r = x at c0 c1 c2 c3 c4 c5 c6
  clear hs hr
  go_enter Try.func48, Try.ntmps48
  go_wp2_with fail
  go_region
  all_goals
    go_wp2_with fail
    refine bodyPost_ret (v := .agg #[.int .i64 x.k, .int .i64 x.l, .int .i64 x.r, .int .i64 x.a, .int .i64 x.b, .int .i64 x.c, .int .i64 x.d]) (by simp [results, Try.results48, go_sem, *]) rfl ⟨rfl, (by repeat (first | (with_reducible exact Later.refl _) | (with_reducible exact Hid.out (by assumption)) | (with_reducible refine Later.alloc ?_ _) | (with_reducible refine Later.setCell ?_ (by simp; omega) _) | (with_reducible refine Later.setCell ?_ (by simp) _) | (with_reducible refine Later.drewN ?_ _) | (with_reducible refine Later.drew ?_) | (with_reducible refine Later.trans ?_ (Hid.out (by assumption)))))⟩
end Go.Proofs.Ytnmlkigpiaekjaa
namespace Go.Proofs.Ytnmlkigpiaekjaa
open Go.RowKit
set_option maxHeartbeats 4000000
set_option linter.unusedVariables false
set_option linter.unusedSimpArgs false
theorem mod_two (a T : Int) (hT : 0 < T) : (a.tmod T + T).tmod T = a % T := by
  have f := tmod_facts a T (by omega)
  have f2 := (f.2.2.2.1 hT).2
  rw [Int.tmod_eq_emod_of_nonneg (by omega), Int.add_emod_right]
  conv => rhs; rw [← f.1]
  rw [Int.add_comm, Int.add_mul_emod_self_left]
theorem s_Mod (n T : Int) (w : World) (hT : 0 < T) (hT2 : T ≤ 4000000000000000000) (hn : -9223372036854775808 ≤ n) (hn2 : n ≤ 9223372036854775807) :
    Calls Try.prog 92 #[.int .i64 n, .int .i64 T] w fun e w' => e = .returned (.int .i64 (n % T)) ∧ w = w' := by
  have HE := Lib.hid (mod_two n T hT)
  have f := tmod_facts n T (by omega)
  have f1 := (f.2.2.2.1 hT).1
  have f2 := (f.2.2.2.1 hT).2
  have g := tmod_facts (n.tmod T + T) T (by omega)
  have g0 := g.2.1 (by omega)
  have g1 := (g.2.2.2.1 hT).1
  clear f g
  go_enter Try.func92, Try.ntmps92
  go_wp2
  go_ret
  exact ⟨ret_i64 (by have h := HE.out; rw [Int.tmod_eq_emod_of_nonneg (by omega)] at h; first | exact h | (rw [← h]; simp; done)), rfl⟩
theorem s_l09Run (a : Option Addr) (n cap : Nat) (f c : Int) (r b : Bool) (w : World) (hn : n ≤ 9223372036854775807) (h : ((decide (0 ≤ f) && decide (f ≤ (n : Int) - 1)) && (decide (0 ≤ c) && decide (c ≤ 24))) = r) (hb : b = (r && decide (c ≤ (n : Int)))) :
    Calls Try.prog 65 #[.agg #[.slice a n cap], .int .i64 f, .int .i64 c] w fun e w' => e = .returned (.bool b) ∧ Later w w' := by
  have HR := fun W => s_Range a n cap f c r W hn h
  clear h
  cases r
  · obtain rfl : b = false := by simpa using hb
    clear hb
    go_enter Try.func65, Try.ntmps65
    go_wp2_with (go_at_call 39; refine (HR _).mono ?_; rintro e w1 ⟨rfl, hb⟩; have H1 := Lib.hid hb; clear hb)
    go_ret
    exact ⟨ret_b rfl, (by repeat (first | (with_reducible exact Later.refl _) | (with_reducible exact Hid.out (by assumption)) | (with_reducible refine Later.alloc ?_ _) | (with_reducible refine Later.setCell ?_ (by simp; omega) _) | (with_reducible refine Later.setCell ?_ (by simp) _) | (with_reducible refine Later.drewN ?_ _) | (with_reducible refine Later.drew ?_) | (with_reducible refine Later.trans ?_ (Hid.out (by assumption)))))⟩
  · have HB := Lib.hid (hb.trans (Bool.true_and _))
    clear hb
    go_enter Try.func65, Try.ntmps65
    go_wp2_with (go_at_call 39; refine (HR _).mono ?_; rintro e w1 ⟨rfl, hb⟩; have H1 := Lib.hid hb; have hc1 : w1.cell? ⟨w.heap.size, 0, none⟩ = some (.slice a n cap) := (by rw [hb.cell (p := ⟨w.heap.size, 0, none⟩) (by simp)]; simp); clear hb)
    go_ret
    exact ⟨ret_b (by rw [HB.out]), (by repeat (first | (with_reducible exact Later.refl _) | (with_reducible exact Hid.out (by assumption)) | (with_reducible refine Later.alloc ?_ _) | (with_reducible refine Later.setCell ?_ (by simp; omega) _) | (with_reducible refine Later.setCell ?_ (by simp) _) | (with_reducible refine Later.drewN ?_ _) | (with_reducible refine Later.drew ?_) | (with_reducible refine Later.trans ?_ (Hid.out (by assumption)))))⟩
set_option maxRecDepth 100000 in
theorem s_l09Brakes (a : Option Addr) (n cap : Nat) (L : List Sg) (f c : Nat) (w : World) (hs : Sgs w a n L) (h24 : n ≤ 24) (hf : f < n) (hc : c ≤ 24) :
    Calls Try.prog 66 #[.agg #[.slice a n cap], .int .i64 f, .int .i64 c] w fun e w' => ∃ v, e = .returned v ∧ Own w' w.heap.size v (lsK (mdS L f c) n) ∧ Later w w' := by
  have HS := Lib.hid hs
  have HL := Lib.hid hs.1
  clear hs
  go_enter Try.func66, Try.ntmps66
  go_wp2_with fail
  have ho0 := own_new ((w.alloc (.cells #[.slice a n cap] 26))) (w.heap.size + 1) (by simp)
  simp only [World.size_alloc] at ho0
  go_loopw [8, 9] (fun v i wr => ∃ k : Nat, k ≤ n ∧ i = .int .i64 k ∧ Own wr (w.heap.size + 1) v (lsK (mdS L f c) k) ∧ wr.cell? ⟨w.heap.size, 0, none⟩ = some (.slice a n cap) ∧ Later w wr) (fun _ i _ => n - (intOf i).toNat)
  case atStart => exact ⟨0, by omega, rfl, ho0, by simp, (by repeat (first | (with_reducible exact Later.refl _) | (with_reducible exact Hid.out (by assumption)) | (with_reducible refine Later.alloc ?_ _) | (with_reducible refine Later.setCell ?_ (by simp; omega) _) | (with_reducible refine Later.setCell ?_ (by simp) _) | (with_reducible refine Later.drewN ?_ _) | (with_reducible refine Later.drew ?_) | (with_reducible refine Later.trans ?_ (Hid.out (by assumption)))))⟩
  case round =>
    clear ho0
    obtain ⟨k, hk, rfl, ho, hc1, hlw⟩ := hrel
    have HO := Lib.hid ho; have HW := Lib.hid hlw
    have hz1 : w.heap.size < wr.heap.size := sg_cell_lt hc1
    clear ho hlw
    by_cases hlt : k < n
    · obtain ⟨b, off, rfl, hb, hcc⟩ := (HS.out.later HW.out).at k hlt
      have c0 := hcc.1
      clear hcc
      have hw1 : IntKind.i64.wrap ((k : Int) - (f : Int)) = (k : Int) - (f : Int) := IntWalk.i64_in _ (by omega)
      have HM := fun W => s_Mod ((k : Int) - f) n W (by omega) (by omega) (by omega) (by omega)
      have hln := lsK_len (mdS L f c) k
      by_cases hk3 : (sx L k).k = 3
      · by_cases hm : ((k : Int) - f) % (n : Int) < c
        · have HLs : Hid (lsK (mdS L f c) (k + 1) = lsK (mdS L f c) k ++ [(k : Int)]) := Lib.hid (by show (if mdS L f c k = true then _ else _) = _; rw [if_pos (by unfold mdS; rw [HL.out]; simp [hk3, hm])])
          have e3 : ((sx L k).k == 3) = true := by simpa using hk3
          clear hk3
          generalize ((k : Int) - f) % (n : Int) = m at *
          go_wp2_with (first | (go_at_call 92; refine (HM _).mono ?_; rintro e w1 ⟨rfl, rfl⟩) | (at_builtin; go_must (refine app1 rfl _ _ rfl (w.heap.size + 1) _ _ _ _ _ HO.out rfl rfl ⟨by omega, by omega⟩ (by omega) (by omega) ?_; intro v' w4 ho4 hg4; have O4 := Lib.hid ho4; have G4 := Lib.hid hg4; clear ho4 hg4)))
          have hc4 : w4.cell? ⟨w.heap.size, 0, none⟩ = some (.slice (some ⟨b, off, none⟩) n cap) := G4.out.cell hc1 (fun e => by have := (HO.out.lt _ e.symm).1; simp at this; omega)
          have H4 : Hid (Later w w4) := Lib.hid (Below.grown (show Later w wr from (by repeat (first | (with_reducible exact Later.refl _) | (with_reducible exact Hid.out (by assumption)) | (with_reducible refine Later.alloc ?_ _) | (with_reducible refine Later.setCell ?_ (by simp; omega) _) | (with_reducible refine Later.setCell ?_ (by simp) _) | (with_reducible refine Later.drewN ?_ _) | (with_reducible refine Later.drew ?_) | (with_reducible refine Later.trans ?_ (Hid.out (by assumption)))))) G4.out (by omega) (fun j e => by have := (HO.out.lt j e).1; omega))
          go_roundw
          case rel => exact ⟨k + 1, by omega, by go_num, by rw [HLs.out]; exact O4.out, hc4, H4.out⟩
          case measure => simp [intOf]; omega
        · have HLs : Hid (lsK (mdS L f c) (k + 1) = lsK (mdS L f c) k) := Lib.hid (by show (if mdS L f c k = true then _ else _) = _; rw [if_neg (by unfold mdS; rw [HL.out]; simp [hm])])
          have e3 : ((sx L k).k == 3) = true := by simpa using hk3
          have hm2 : (c : Int) ≤ ((k : Int) - f) % (n : Int) := by omega
          clear hk3 hm
          generalize ((k : Int) - f) % (n : Int) = m at *
          go_wp2_with (first | (go_at_call 92; refine (HM _).mono ?_; rintro e w1 ⟨rfl, rfl⟩))
          go_roundw
          case rel => exact ⟨k + 1, by omega, by go_num, by rw [HLs.out]; exact own_lat HO.out (by repeat (first | (with_reducible exact Later.refl _) | (with_reducible exact Hid.out (by assumption)) | (with_reducible refine Later.alloc ?_ _) | (with_reducible refine Later.setCell ?_ (by simp; omega) _) | (with_reducible refine Later.setCell ?_ (by simp) _) | (with_reducible refine Later.drewN ?_ _) | (with_reducible refine Later.drew ?_) | (with_reducible refine Later.trans ?_ (Hid.out (by assumption))))), by first | exact hc1 | simpa using hc1, (by repeat (first | (with_reducible exact Later.refl _) | (with_reducible exact Hid.out (by assumption)) | (with_reducible refine Later.alloc ?_ _) | (with_reducible refine Later.setCell ?_ (by simp; omega) _) | (with_reducible refine Later.setCell ?_ (by simp) _) | (with_reducible refine Later.drewN ?_ _) | (with_reducible refine Later.drew ?_) | (with_reducible refine Later.trans ?_ (Hid.out (by assumption)))))⟩
          case measure => simp [intOf]; omega
      · have HLs : Hid (lsK (mdS L f c) (k + 1) = lsK (mdS L f c) k) := Lib.hid (by show (if mdS L f c k = true then _ else _) = _; rw [if_neg (by unfold mdS; simp [hk3])])
        have e3 : ((sx L k).k == 3) = false := by simpa using hk3
        clear hk3
        go_wp2_with fail
        go_roundw
        case rel => exact ⟨k + 1, by omega, by go_num, by rw [HLs.out]; exact own_lat HO.out (by repeat (first | (with_reducible exact Later.refl _) | (with_reducible exact Hid.out (by assumption)) | (with_reducible refine Later.alloc ?_ _) | (with_reducible refine Later.setCell ?_ (by simp; omega) _) | (with_reducible refine Later.setCell ?_ (by simp) _) | (with_reducible refine Later.drewN ?_ _) | (with_reducible refine Later.drew ?_) | (with_reducible refine Later.trans ?_ (Hid.out (by assumption))))), by first | exact hc1 | simpa using hc1, (by repeat (first | (with_reducible exact Later.refl _) | (with_reducible exact Hid.out (by assumption)) | (with_reducible refine Later.alloc ?_ _) | (with_reducible refine Later.setCell ?_ (by simp; omega) _) | (with_reducible refine Later.setCell ?_ (by simp) _) | (with_reducible refine Later.drewN ?_ _) | (with_reducible refine Later.drew ?_) | (with_reducible refine Later.trans ?_ (Hid.out (by assumption)))))⟩
        case measure => simp [intOf]; omega
    · obtain rfl : k = n := by omega
      go_wp2_with fail
      go_ret
      exact ⟨_, rfl, Own.mono HO.out (by omega), HW.out⟩
theorem s_BrakesIn (a : Option Addr) (n cap : Nat) (L : List Sg) (f c : Int) (w : World) (hs : Sgs w a n L) :
    Calls Try.prog 31 #[.agg #[.slice a n cap], .int .i64 f, .int .i64 c] w fun e w' => ∃ v, e = .returned (.tuple #[v, .int .i64 (biE L f c)]) ∧ Own w' w.heap.size v (biV L f c) ∧ Later w w' := by
  have HS := Lib.hid hs
  have HL := Lib.hid hs.1
  have hn := hs.2.1
  clear hs
  cases hv : layB L
  · have h1 : sgE L f c = 1 := by unfold sgE; rw [hv]; rfl
    have E1 : Hid (biE L f c = 1) := Lib.hid (by unfold biE; rw [h1]; rfl)
    clear h1
    have E2 : Hid (biV L f c = []) := Lib.hid (by unfold biV; rw [E1.out]; rfl)
    go_enter Try.func31, Try.ntmps31
    go_wp2_with (go_at_call 38; refine (s_IsLayout a n cap L _ (HS.out.later (by repeat (first | (with_reducible exact Later.refl _) | (with_reducible exact Hid.out (by assumption)) | (with_reducible refine Later.alloc ?_ _) | (with_reducible refine Later.setCell ?_ (by simp; omega) _) | (with_reducible refine Later.setCell ?_ (by simp) _) | (with_reducible refine Later.drewN ?_ _) | (with_reducible refine Later.drew ?_) | (with_reducible refine Later.trans ?_ (Hid.out (by assumption))))))).mono ?_; rw [hv]; rintro e w1 ⟨rfl, hb⟩; have H1 := Lib.hid hb; clear hb)
    go_ret2
    exact ⟨.slice none 0 0, by rw [E1.out]; rfl, by rw [E2.out]; exact own_none0 _ _, (by repeat (first | (with_reducible exact Later.refl _) | (with_reducible exact Hid.out (by assumption)) | (with_reducible refine Later.alloc ?_ _) | (with_reducible refine Later.setCell ?_ (by simp; omega) _) | (with_reducible refine Later.setCell ?_ (by simp) _) | (with_reducible refine Later.drewN ?_ _) | (with_reducible refine Later.drew ?_) | (with_reducible refine Later.trans ?_ (Hid.out (by assumption)))))⟩
  · by_cases hr : (0 ≤ f ∧ f < (n : Int) ∧ 0 ≤ c ∧ c ≤ 24) ∧ c ≤ (n : Int)
    · have h24 : n ≤ 24 := by have := (layB_iff L).1 hv; have := HL.out; omega
      have h0 : sgE L f c = 0 := by unfold sgE; rw [hv, if_pos rfl, HL.out, if_pos hr.1]
      obtain ⟨_, f', c', rfl, rfl, hf, hc⟩ := sgE_ok h0
      rw [HL.out] at hf
      have E1 : Hid (biE L (f' : Int) (c' : Int) = 0) := Lib.hid (by unfold biE; rw [if_neg (fun h => h h0), HL.out, if_neg (by omega)])
      have E2 : Hid (biV L (f' : Int) (c' : Int) = lsK (mdS L f' c') n) := Lib.hid (by
        have := biV_model L f' c' (by rw [HL.out]; exact hf) (by rw [HL.out]; omega) (by rw [HL.out]; exact h24)
        unfold biV; rw [if_pos E1.out]
        rw [HL.out] at this
        exact this)
      have HR := fun W => s_l09Run a n cap (f' : Int) (c' : Int) true true W hn (by simp; omega) (by simp; omega)
      have HB := fun W h => s_l09Brakes a n cap L f' c' W h h24 hf hc
      clear hr h0
      go_enter Try.func31, Try.ntmps31
      go_wp2_with (first
        | (go_at_call 38; refine (s_IsLayout a n cap L _ (HS.out.later (by repeat (first | (with_reducible exact Later.refl _) | (with_reducible exact Hid.out (by assumption)) | (with_reducible refine Later.alloc ?_ _) | (with_reducible refine Later.setCell ?_ (by simp; omega) _) | (with_reducible refine Later.setCell ?_ (by simp) _) | (with_reducible refine Later.drewN ?_ _) | (with_reducible refine Later.drew ?_) | (with_reducible refine Later.trans ?_ (Hid.out (by assumption))))))).mono ?_; rw [hv]; rintro e w1 ⟨rfl, hb⟩; have H1 := Lib.hid hb; have hc1 : w1.cell? ⟨w.heap.size, 0, none⟩ = some (.slice a n cap) := (by rw [hb.cell (p := ⟨w.heap.size, 0, none⟩) (by simp)]; simp); have hz1 := sg_cell_lt hc1; clear hb)
        | (go_at_call 65; refine (HR _).mono ?_; rintro e w2 ⟨rfl, hb⟩; have H2 := Lib.hid hb; have hc2 : w2.cell? ⟨w.heap.size, 0, none⟩ = some (.slice a n cap) := (by rw [hb.cell (p := ⟨w.heap.size, 0, none⟩) (by first | exact hz1 | (simp; omega))]; first | exact hc1 | simpa using hc1); clear hb)
        | (go_at_call 66; refine (HB _ (HS.out.later (by repeat (first | (with_reducible exact Later.refl _) | (with_reducible exact Hid.out (by assumption)) | (with_reducible refine Later.alloc ?_ _) | (with_reducible refine Later.setCell ?_ (by simp; omega) _) | (with_reducible refine Later.setCell ?_ (by simp) _) | (with_reducible refine Later.drewN ?_ _) | (with_reducible refine Later.drew ?_) | (with_reducible refine Later.trans ?_ (Hid.out (by assumption))))))).mono ?_; rintro e w3 ⟨v, rfl, ho, hb⟩; have O3 := Lib.hid ho; have H3 := Lib.hid hb; clear hb ho))
      go_ret2
      exact ⟨_, by rw [E1.out]; rfl, by rw [E2.out]; exact Own.mono O3.out (Later.size (show Later w w2 from (by repeat (first | (with_reducible exact Later.refl _) | (with_reducible exact Hid.out (by assumption)) | (with_reducible refine Later.alloc ?_ _) | (with_reducible refine Later.setCell ?_ (by simp; omega) _) | (with_reducible refine Later.setCell ?_ (by simp) _) | (with_reducible refine Later.drewN ?_ _) | (with_reducible refine Later.drew ?_) | (with_reducible refine Later.trans ?_ (Hid.out (by assumption))))))), (by repeat (first | (with_reducible exact Later.refl _) | (with_reducible exact Hid.out (by assumption)) | (with_reducible refine Later.alloc ?_ _) | (with_reducible refine Later.setCell ?_ (by simp; omega) _) | (with_reducible refine Later.setCell ?_ (by simp) _) | (with_reducible refine Later.drewN ?_ _) | (with_reducible refine Later.drew ?_) | (with_reducible refine Later.trans ?_ (Hid.out (by assumption)))))⟩
    · have E1 : Hid (biE L f c = 2) := Lib.hid (by
        unfold biE sgE; rw [hv, if_pos rfl, HL.out]
        by_cases h1 : 0 ≤ f ∧ f < (n : Int) ∧ 0 ≤ c ∧ c ≤ 24
        · rw [if_pos h1, if_neg (by simp), if_pos (by omega)]
        · rw [if_neg h1, if_pos (by simp)])
      have E2 : Hid (biV L f c = []) := Lib.hid (by unfold biV; rw [E1.out]; rfl)
      have HR := fun W => s_l09Run a n cap f c (((decide (0 ≤ f) && decide (f ≤ (n : Int) - 1)) && (decide (0 ≤ c) && decide (c ≤ 24)))) false W hn rfl (by
        rw [eq_comm, Bool.eq_false_iff]
        intro h
        simp only [Bool.and_eq_true, decide_eq_true_iff] at h
        exact hr (by omega))
      clear hr
      go_enter Try.func31, Try.ntmps31
      go_wp2_with (first
        | (go_at_call 38; refine (s_IsLayout a n cap L _ (HS.out.later (by repeat (first | (with_reducible exact Later.refl _) | (with_reducible exact Hid.out (by assumption)) | (with_reducible refine Later.alloc ?_ _) | (with_reducible refine Later.setCell ?_ (by simp; omega) _) | (with_reducible refine Later.setCell ?_ (by simp) _) | (with_reducible refine Later.drewN ?_ _) | (with_reducible refine Later.drew ?_) | (with_reducible refine Later.trans ?_ (Hid.out (by assumption))))))).mono ?_; rw [hv]; rintro e w1 ⟨rfl, hb⟩; have H1 := Lib.hid hb; have hc1 : w1.cell? ⟨w.heap.size, 0, none⟩ = some (.slice a n cap) := (by rw [hb.cell (p := ⟨w.heap.size, 0, none⟩) (by simp)]; simp); have hz1 := sg_cell_lt hc1; clear hb)
        | (go_at_call 65; refine (HR _).mono ?_; rintro e w2 ⟨rfl, hb⟩; have H2 := Lib.hid hb; clear hb))
      go_ret2
      exact ⟨.slice none 0 0, by rw [E1.out]; rfl, by rw [E2.out]; exact own_none0 _ _, (by repeat (first | (with_reducible exact Later.refl _) | (with_reducible exact Hid.out (by assumption)) | (with_reducible refine Later.alloc ?_ _) | (with_reducible refine Later.setCell ?_ (by simp; omega) _) | (with_reducible refine Later.setCell ?_ (by simp) _) | (with_reducible refine Later.drewN ?_ _) | (with_reducible refine Later.drew ?_) | (with_reducible refine Later.trans ?_ (Hid.out (by assumption)))))⟩
end Go.Proofs.Ytnmlkigpiaekjaa
namespace Go.Proofs.Ytnmlkigpiaekjaa
open Go.RowKit
set_option maxHeartbeats 2000000
set_option linter.unusedVariables false
set_option linter.unusedSimpArgs false
theorem l_eqInt64S (a b : Option Addr) (n cap m cap' : Nat) (l : List Int) (w : World) (hs : Sl w a n l) (ht : Sl w b m l) :
    Calls Try.prog 30 #[.slice a n cap, .slice b m cap'] w fun e w' => e = .returned (.bool true) ∧ ∃ q, w' = w.drewN q := by
  have HS := Lib.hid hs
  have HT := Lib.hid ht
  obtain rfl : n = m := by rw [← hs.1, ← ht.1]
  have hn := hs.2.1
  clear hs ht
  have e0 : ((n : Int) != (n : Int)) = false := by simp
  go_enter Try.func30, Try.ntmps30
  go_wp2
  go_loopw [5] (fun i wr => ∃ k : Nat, k ≤ n ∧ i = .int .i64 k ∧ ∃ q, wr = w.drewN q) (fun i _ => n - (intOf i).toNat)
  case atStart => exact ⟨0, by omega, rfl, 0, rfl⟩
  case round =>
    obtain ⟨k, hk, rfl, q, rfl⟩ := hrel
    by_cases hlt : k < n
    · obtain ⟨b1, o1, rfl, hc1⟩ := HS.out.at k hlt
      obtain ⟨b2, o2, rfl, hc2⟩ := HT.out.at k hlt
      go_wp2
      go_quiet (fail)
      go_wp2
      go_roundw
      case rel => exact ⟨k + 1, by omega, by go_num, by first | exact ⟨_, rfl⟩ | exact dr _ _ _⟩
      case measure => simp [intOf]; omega
    · go_wp2
      go_ret
      exact ⟨rfl, by first | exact ⟨_, rfl⟩ | exact dr _ _ _⟩
end Go.Proofs.Ytnmlkigpiaekjaa
namespace Go.Proofs.Ytnmlkigpiaekjaa
open Go.RowKit
set_option maxHeartbeats 4000000
set_option linter.unusedVariables false
set_option linter.unusedSimpArgs false
theorem later_grownBy {w w' : World} (h : Later w w') (row : Option Nat) : w.grownBy w' row := ⟨h.os, h.tape, h.output, h.size, fun k hk _ => h.block k hk⟩
theorem Own.kept2 {w w' : World} {base : Nat} {v : Value} {l : List Int} {row : Option Nat} (h : Own w base v l) (hg : w.grownBy w' row) (hr : ∀ k, v.ownBlock = some k → row ≠ some k) : Own w' base v l := by
  refine ⟨h.1.kept hg ?_, h.2⟩
  cases hv : v.ownBlock with
  | none => exact .inl rfl
  | some k => exact .inr (fun e => hr k hv e.symm)
theorem Own.later {w w' : World} {base : Nat} {v : Value} {l : List Int} (h : Own w base v l) (k : Later w w') : Own w' base v l := h.kept2 (later_grownBy k none) (fun _ _ e => by cases e)
theorem later_grow {w wr w5 : World} {row : Option Nat} (W : Later w wr) (hg : wr.grownBy w5 row) (hr : ∀ k, row = some k → w.heap.size ≤ k) : Later w w5 := Below.grown W hg W.size hr
theorem l_eqI (a b : Option Addr) (n cap m cap' : Nat) (l : List Int) (w : World) (hs : Sl w a n l) (ht : Sl w b m l) :
    Calls Try.prog 30 #[.slice a n cap, .slice b m cap'] w fun e w' => e = .returned (.bool true) ∧ Later w w' :=
  (l_eqInt64S a b n cap m cap' l w hs ht).mono fun e w' ⟨he, q, hq⟩ => ⟨he, by rw [hq]; exact (Later.refl _).drewN q⟩
end Go.Proofs.Ytnmlkigpiaekjaa
namespace Go.Proofs.Ytnmlkigpiaekjaa
open Go.RowKit
set_option maxHeartbeats 2000000
set_option linter.unusedVariables false
set_option linter.unusedSimpArgs false
theorem made7 (n j : Nat) (h : j < n * 7) : ((madeCells (Value.cells (.agg #[.int .i64 0, .int .i64 0, .int .i64 0, .int .i64 0, .int .i64 0, .int .i64 0, .int .i64 0])) (n * 7)).toList)[j]? = some (.int .i64 0) := by
  have e : j % 7 = 0 ∨ j % 7 = 1 ∨ j % 7 = 2 ∨ j % 7 = 3 ∨ j % 7 = 4 ∨ j % 7 = 5 ∨ j % 7 = 6 := by omega
  rcases e with e | e | e | e | e | e | e <;> simp [madeCells, Value.cells, h, e]
theorem l_toSegmentS (a : Option Addr) (n cap : Nat) (L : List Sg) (w : World) (hs : Sgs w a n L) (hn : n ≤ 1048576) :
    Calls Try.prog 51 #[.slice a n cap] w (CopiedS w n L) := by
  have HS := Lib.hid hs
  have HL := Lib.hid hs.1
  clear hs
  obtain ⟨i0, hi, hz0, hz1, hz2⟩ := info_parts info_seg
  have HI := Lib.hid hi; clear hi
  have HZ0 := Lib.hid hz0; clear hz0
  have HZ1 := Lib.hid hz1; clear hz1
  have HZ2 := Lib.hid hz2; clear hz2
  go_enter Try.func51, Try.ntmps51
  go_wp2_with (refine wpList_make_full _ rfl _ _ _ rfl w.heap.size 77 i0 (.agg #[.int .i64 0, .int .i64 0, .int .i64 0, .int .i64 0, .int .i64 0, .int .i64 0, .int .i64 0]) 7 Try.underlying24 HI.out HZ0.out HZ1.out _ _ _ _ n rfl rfl rfl rfl (by rw [HZ2.out]; omega) (by unfold maxLen; omega) (Nat.le_refl _) ?_; intro w1 hown hgrow)
  have HO : Hid (SgRow w1 w.heap.size n (fltK L 0)) := Lib.hid ((SgRow.of_own hown (fun j hj => made7 n j hj)).congr (fun j hj => by unfold fltK; rw [if_neg (by omega)]))
  have HB : Hid (Later w w1) := Lib.hid ((Below.refl _ _).grown hgrow (Nat.le_refl _) (by simp))
  clear hown hgrow
  go_loopw [4] (fun i wr => ∃ k : Nat, k ≤ n ∧ i = .int .i64 k ∧ SgRow wr w.heap.size n (fltK L k) ∧ Later w wr) (fun i _ => n - (intOf i).toNat)
  case atStart => exact ⟨0, by omega, rfl, HO.out, HB.out⟩
  case round =>
    clear HO HB
    obtain ⟨k, hk, rfl, ho, hb⟩ := hrel
    have HR := Lib.hid ho
    have HW := Lib.hid hb
    have hsz := ho.lt
    clear ho hb
    by_cases hlt : k < n
    · obtain ⟨b', off', rfl, hb', hc⟩ := (HS.out.later HW.out).at k hlt
      obtain ⟨c0, c1, c2, c3, c4, c5, c6⟩ := hc
      go_wp2_with fail
      refine (l_toSegment (sx L k) _).mono ?_
      rintro e w2 ⟨rfl, hb2⟩
      have H2 := Lib.hid hb2
      have R2 := Lib.hid (HR.out.later hb2)
      have hsz2 : w.heap.size < w2.heap.size := R2.out.lt
      obtain ⟨u0, u1, u2, u3, u4, u5, u6, z0, z1, z2, z3, z4, z5, z6, g0, g1, g2, g3, g4, g5, g6⟩ := R2.out.seven' k hlt
      clear hb2 c0 c1 c2 c3 c4 c5 c6 HR
      go_wp2_with fail
      go_roundw
      case rel =>
        exact ⟨k + 1, by omega, by go_num, R2.out.putK hlt, (by repeat (first | (with_reducible exact Later.refl _) | (with_reducible exact Hid.out (by assumption)) | (with_reducible refine Later.alloc ?_ _) | (with_reducible refine Later.setCell ?_ (Nat.le_refl _) _) | (with_reducible refine Later.drewN ?_ _) | (with_reducible refine Later.drew ?_) | (with_reducible refine Later.trans ?_ (Hid.out (by assumption)))))⟩
      case measure => simp [intOf]; omega
    · obtain rfl : k = n := by omega
      go_wp2
      go_ret
      exact ⟨w.heap.size, rfl, Nat.le_refl _, HR.out.congr (fun j hj => by unfold fltK; rw [if_pos hj]), HW.out⟩
/-- what a copy of a layout leaves -/
def CopiedL (w : World) (n : Nat) (L : List Sg) (e : Ending) (w' : World) : Prop :=
  ∃ g, e = .returned (.agg #[.slice (some ⟨g, 0, none⟩) n n]) ∧ w.heap.size ≤ g ∧ SgRow w' g n (flt L) ∧ Later w w'
theorem l_toLayout (a : Option Addr) (n cap : Nat) (L : List Sg) (w : World) (hs : Sgs w a n L) (hn : n ≤ 1048576) :
    Calls Try.prog 20 #[.agg #[.slice a n cap]] w (CopiedL w n L) := by
  have HS := Lib.hid hs
  clear hs
  go_enter Try.func20, Try.ntmps20
  go_wp2_with fail
  refine (l_toSegmentS a n cap L _ (HS.out.later (((Later.refl _).alloc _).alloc _ |>.alloc _)) hn).mono ?_
  rintro e w1 ⟨g, rfl, hg, hr, hb⟩
  obtain ⟨H, hcc, hff, hzz⟩ := later_facts hb
  have HR := Lib.hid hr
  simp only [World.size_alloc] at hg hzz
  clear hb hr
  have hz1 : w.heap.size + 1 < w1.heap.size := by omega
  have hz2 : w.heap.size + 1 + 1 < w1.heap.size := by omega
  have hz0 : w.heap.size < w1.heap.size := by omega
  have R2 : ∀ u v, Hid (SgRow ((w1.setCell ⟨w.heap.size + 1 + 1, 0, none⟩ u).setCell ⟨w.heap.size + 1, 0, none⟩ v) g n (flt L)) := fun u v => Lib.hid ((HR.out.far (by simp; omega) u).far (by simp; omega) v)
  have RR := Lib.hid R2
  clear R2
  have hg0 : w.heap.size ≤ g := by omega
  clear hg hzz
  go_wp2_with fail
  refine bodyPost_ret (v := .agg #[.slice (some ⟨g, 0, none⟩) n n]) (by simp [results, Try.results20, go_sem, *]) rfl ⟨g, rfl, hg0, (RR.out _ _).out, ?_⟩
  exact (by repeat (first | (with_reducible exact Later.refl _) | (with_reducible exact Hid.out (by assumption)) | (with_reducible refine Later.setCell ?_ (by simp; omega) _) | (with_reducible refine Later.setCell ?_ (by simp) _) | (with_reducible refine Later.alloc ?_ _) | (with_reducible refine Later.drewN ?_ _) | (with_reducible refine Later.drew ?_) | (with_reducible refine Later.trans ?_ (Hid.out (by assumption)))))
end Go.Proofs.Ytnmlkigpiaekjaa
namespace Go.Proofs.Ytnmlkigpiaekjaa
open Go.RowKit
set_option linter.unusedVariables false
set_option linter.unusedSimpArgs false
theorem szI_big {n : Nat} (h : 1048576 < n) : szI 1048576 n = -1 := by unfold szI; rw [if_pos (by omega)]
theorem szI_ok {n : Nat} (h : n ≤ 1048576) : szI 1048576 n = 1048576 - n := by unfold szI; rw [if_neg (by omega)]
theorem two_cells {w w' : World} {b1 b2 : Nat} {u v : Value} (h1 : w.cell? ⟨b1, 0, none⟩ = some u) (l1 : b1 < w.heap.size) (h2 : w.cell? ⟨b2, 0, none⟩ = some v) (l2 : b2 < w.heap.size) (k : Later w w') :
    w'.cell? ⟨b1, 0, none⟩ = some u ∧ w'.cell? ⟨b2, 0, none⟩ = some v :=
  ⟨by rw [k.cell (p := ⟨b1, 0, none⟩) l1]; exact h1, by rw [k.cell (p := ⟨b2, 0, none⟩) l2]; exact h2⟩
theorem i64w {a : Int} (h : (Lit.int .i64 a).wf = true) : -9223372036854775808 ≤ a ∧ a ≤ 9223372036854775807 := by
  simpa [Lit.wf, IntKind.min, IntKind.max, IntKind.signed, IntKind.bits] using h
end Go.Proofs.Ytnmlkigpiaekjaa
namespace Go.Proofs.Ytnmlkigpiaekjaa
open Go.RowKit
set_option maxHeartbeats 2000000
set_option linter.unusedVariables false
set_option linter.unusedSimpArgs false
/-- the list l, of which k elements are marked -/
def mrk (l : List Int) (k : Nat) : List Int := (List.range l.length).map fun j => if j < k then 1 + (j : Int) else gx l j
theorem mrk_len (l : List Int) (k : Nat) : (mrk l k).length = l.length := by simp [mrk]
theorem mrk_get (l : List Int) (k j : Nat) (h : j < l.length) : (mrk l k)[j]? = some (if j < k then 1 + (j : Int) else gx l j) := by simp [mrk, h]
theorem mrk_0 (l : List Int) : mrk l 0 = l := by
  apply List.ext_getElem?
  intro j
  by_cases h : j < l.length
  · rw [mrk_get l 0 j h, if_neg (by omega), List.getElem?_eq_getElem h, gx_of l j h]
  · rw [List.getElem?_eq_none (by rw [mrk_len]; omega), List.getElem?_eq_none (by omega)]
theorem mrk_set (l : List Int) (k : Nat) (hk : k < l.length) : (mrk l k).set k (1 + (k : Int)) = mrk l (k + 1) := by
  apply List.ext_getElem?
  intro j
  by_cases h : j < l.length
  · rw [List.getElem?_set, mrk_len, mrk_get l k j h, mrk_get l (k + 1) j h]
    by_cases e : k = j
    · subst e; simp [h]
    · rw [if_neg e]
      by_cases c : j < k
      · rw [if_pos c, if_pos (by omega)]
      · rw [if_neg c, if_neg (by omega)]
  · rw [List.getElem?_eq_none (by simp [mrk]; omega), List.getElem?_eq_none (by simp [mrk]; omega)]
theorem mrk_gx (l : List Int) (k : Nat) (h : k < l.length) : gx (mrk l l.length) k = 1 + (k : Int) := by
  rw [gx_of _ _ (by rw [mrk_len]; exact h)]
  simp [mrk, h]
/-- what marking leaves -/
def Marked (w : World) (base : Nat) (v : Value) (l : List Int) (e : Ending) (w' : World) : Prop :=
  e = .returned (.int .i64 (1 + (l.length : Int))) ∧ Own w' base v (mrk l l.length) ∧ w.grownBy w' v.ownBlock
theorem mrk_in (l : List Int) (k : Nat) (hl : l.length ≤ 1000000000) (h : ∀ x ∈ l, InR x) : ∀ x ∈ mrk l k, InR x := by
  intro x hx
  obtain ⟨j, hj, rfl⟩ := List.mem_map.1 hx
  rw [List.mem_range] at hj
  by_cases c : j < k
  · simp only [if_pos c]; exact ⟨by omega, by omega⟩
  · simp only [if_neg c]; exact h _ (gx_mem l j hj)
theorem l_markInt64S (v : Value) (base : Nat) (l : List Int) (w : World) (ho : Own w base v l) (hl : l.length ≤ 1000000000) :
    Calls Try.prog 33 #[v, .int .i64 1] w (Marked w base v l) := by
  have HI := Lib.hid ho.2
  rcases ho.1.2 with ⟨rfl, h0⟩ | ⟨g, cap, cur, rfl, hb, hg, hnc, hcm, _⟩
  · have e : l = [] := List.length_eq_zero_iff.1 h0
    subst e
    have HO := Lib.hid ho
    clear ho h0
    go_enter Try.func33, Try.ntmps33
    go_wp2
    go_loop [1, 5] (fun m i => i = .int .i64 0 ∧ m = .int .i64 1) (fun _ _ => 0)
    case atStart => exact ⟨rfl, rfl⟩
    case round =>
      obtain ⟨rfl, rfl⟩ := hrel
      go_wp2
      go_ret
      exact ⟨rfl, HO.out, ⟨rfl, rfl, rfl, Nat.le_refl _, fun _ _ _ => rfl⟩⟩
  · have HO := Lib.hid ho.1
    obtain ⟨n, hn⟩ : ∃ n, n = l.length := ⟨_, rfl⟩
    have HN := Lib.hid hn
    have O1 : Hid (w.ownsRow base 2 1 (.slice (some ⟨g, 0, none⟩) n cap) n ((mrk l 0).map (Value.int .i64))) := Lib.hid (by rw [mrk_0, HN.out]; exact ho.1)
    have hl' : n ≤ 1000000000 := by omega
    rw [← hn]
    clear hg hnc hcm ho hb hn hl
    go_enter Try.func33, Try.ntmps33
    go_wp2
    go_loopw [1, 5] (fun m i wr => ∃ k : Nat, k ≤ n ∧ i = .int .i64 k ∧ m = .int .i64 (1 + (k : Int)) ∧ wr.ownsRow base 2 1 (.slice (some ⟨g, 0, none⟩) n cap) n ((mrk l k).map (Value.int .i64)) ∧ w.grownBy wr (some g)) (fun _ i _ => n - (intOf i).toNat)
    case atStart => exact ⟨0, by omega, rfl, rfl, O1.out, ⟨rfl, rfl, rfl, Nat.le_refl _, fun _ _ _ => rfl⟩⟩
    case round =>
      obtain ⟨k, hk, rfl, rfl, ho, hg⟩ := hrel
      have HR := Lib.hid ho; have HG := Lib.hid hg
      clear ho hg
      by_cases hlt : k < n
      · obtain ⟨z, hz⟩ : ∃ z, wr.cell? ⟨g, k, none⟩ = some (.int .i64 z) := ⟨_, by rw [HR.out.cellAt k (by omega), List.getElem?_map, mrk_get l k k (by rw [← HN.out]; exact hlt)]; rfl⟩
        have hf : wr.frozen? ⟨g, k, none⟩ = false := HR.out.frozenAt k
        have hset : Hid (((mrk l k).map (Value.int .i64)).set k (.int .i64 (1 + (k : Int))) = (mrk l (k + 1)).map (Value.int .i64)) := Lib.hid (by rw [← mrk_set l k (by rw [← HN.out]; exact hlt), List.map_set])
        go_wp2
        go_roundw
        case rel => exact ⟨k + 1, by omega, by go_num, by go_num, by rw [← hset.out]; exact (HR.out.stored k _).1, grown_trans HG.out (HR.out.stored k _).2⟩
        case measure => simp [intOf]; omega
      · obtain rfl : k = n := by omega
        go_wp2
        go_ret
        refine ⟨by rw [← HN.out] <;> rfl, ⟨?_, mrk_in l _ (by rw [← HN.out]; exact hl') HI.out⟩, HG.out⟩
        rw [mrk_len, ← HN.out]; exact HR.out
theorem l_heldInt64S (v : Value) (base : Nat) (l : List Int) (w : World) (ho : Own w base v (mrk l l.length)) (hl : l.length ≤ 1000000000) :
    Calls Try.prog 34 #[v, .int .i64 1] w fun e w' => e = .returned (.int .i64 (1 + (l.length : Int))) ∧ w = w' := by
  obtain ⟨a, cap, rfl, hs, _⟩ := ho.sl
  have HS := Lib.hid hs
  have HL := Lib.hid (mrk_len l l.length)
  rw [mrk_len]
  obtain ⟨n, hn⟩ : ∃ n, n = l.length := ⟨_, rfl⟩
  have HN := Lib.hid hn
  rw [← hn] at hl ⊢
  clear hs ho hn
  go_enter Try.func34, Try.ntmps34
  go_wp2
  go_loop [1, 5] (fun m i => ∃ k : Nat, k ≤ n ∧ i = .int .i64 k ∧ m = .int .i64 (1 + (k : Int))) (fun _ i => n - (intOf i).toNat)
  case atStart => exact ⟨0, by omega, rfl, rfl⟩
  case round =>
    obtain ⟨k, hk, rfl, rfl⟩ := hrel
    by_cases hlt : k < n
    · obtain ⟨b, off, rfl, hc⟩ := HS.out.at k (by rw [HL.out, ← HN.out]; exact hlt)
      rw [mrk_gx l k (by rw [← HN.out]; exact hlt)] at hc
      go_wp2
      go_round
      case rel => exact ⟨k + 1, by omega, by go_num, by go_num⟩
      case measure => simp [intOf]; omega
    · obtain rfl : k = n := by omega
      go_wp2
      go_ret
      exact ⟨rfl, rfl⟩
end Go.Proofs.Ytnmlkigpiaekjaa
namespace Go.Proofs.Ytnmlkigpiaekjaa
open Go.RowKit
set_option maxHeartbeats 4000000
set_option linter.unusedVariables false
set_option linter.unusedSimpArgs false
set_option maxRecDepth 100000 in
theorem walk_FnExactBrakesIn (a : Option Addr) (n cap : Nat) (L : List Sg) (p : Int) (q : Int) (w : World) (hcap : n ≤ cap) (hs : Sgs w a n L) (u1 : (Lit.int .i64 p).wf = true) (u2 : (Lit.int .i64 q).wf = true) :
    Calls Try.prog 8 #[.agg #[.slice a n cap], .int .i64 p, .int .i64 q] w fun e w' => e = .returned (.bool true) ∧ Later w w' := by
  have HS := Lib.hid hs
  have hn := hs.2.1
  clear hs u1 u2
  have e0 : (biE L p q != biE L p q) = false := by simp
  by_cases hbig : 1048576 < n
  · have hz := Lib.hid (szI_big hbig)
    go_enter Try.func8, Try.ntmps8
    go_wp2_with (go_at_call 19; refine (l_szLayout a n cap _ hn).mono ?_; rw [hz.out]; rintro e w1 ⟨rfl, hb⟩; have H := Lib.hid hb; clear hb)
    go_ret
    exact ⟨rfl, (by repeat (first | (with_reducible exact Later.refl _) | (with_reducible exact Hid.out (by assumption)) | (with_reducible refine Later.alloc ?_ _) | (with_reducible refine Later.drewN ?_ _) | (with_reducible refine Later.drew ?_) | (with_reducible refine Later.trans ?_ (Hid.out (by assumption)))))⟩
  · have hle : n ≤ 1048576 := by omega
    have hz := Lib.hid (szI_ok hle)
    have hlen := biV_len L p q
    clear hbig
    go_enter Try.func8, Try.ntmps8
    go_wp2_with fail
    refine (l_szLayout a n cap _ hn).mono ?_
    rw [hz.out]
    rintro e w1 ⟨rfl, hb⟩
    have b1 : w.heap.size < w1.heap.size := by have := hb.size; simp at this; omega
    have c1 : w1.cell? ⟨w.heap.size, 0, none⟩ = some (.slice a n cap) := by rw [hb.cell (p := ⟨w.heap.size, 0, none⟩) (by simp)]; simp
    have W1 : Hid (Later w w1) := Lib.hid (((Later.refl _).alloc _).trans hb)
    clear hb
    go_wp2_with fail
    refine (l_toLayout a n cap L _ (HS.out.later W1.out) hle).mono ?_
    rintro e w2 ⟨g2, rfl, hg2, hr2, hb⟩
    have b2 : w.heap.size < w2.heap.size := Nat.lt_of_lt_of_le b1 hb.size
    have c2 : w2.cell? ⟨w.heap.size, 0, none⟩ = some (.slice a n cap) := by rw [hb.cell (p := ⟨w.heap.size, 0, none⟩) b1]; exact c1
    have W2 : Hid (Later w w2) := Lib.hid (W1.out.trans hb)
    have S2 := Lib.hid (hr2.sgs HS.out.1 (by omega) HS.out.2.2.2)
    clear hb hr2 hg2 c1
    go_wp2_with fail
    refine (s_BrakesIn _ n n L p q _ S2.out).mono ?_
    rintro e w3 ⟨v3, rfl, ho3, hb⟩
    have b3 : w.heap.size < w3.heap.size := Nat.lt_of_lt_of_le b2 hb.size
    have c3 : w3.cell? ⟨w.heap.size, 0, none⟩ = some (.slice a n cap) := by rw [hb.cell (p := ⟨w.heap.size, 0, none⟩) b2]; exact c2
    have W3 : Hid (Later w w3) := Lib.hid (W2.out.trans hb)
    have O3 := Lib.hid ho3
    clear hb c2 ho3
    go_wp2_with fail
    refine (l_toLayout a n cap L _ (HS.out.later W3.out) hle).mono ?_
    rintro e w4 ⟨g4, rfl, hg4, hr4, hb⟩
    have b4 : w.heap.size < w4.heap.size := Nat.lt_of_lt_of_le b3 hb.size
    have c4 : w4.cell? ⟨w.heap.size, 0, none⟩ = some (.slice a n cap) := by rw [hb.cell (p := ⟨w.heap.size, 0, none⟩) b3]; exact c3
    have W4 : Hid (Later w w4) := Lib.hid (W3.out.trans hb)
    have R4 := Lib.hid hr4
    have O4 := Lib.hid (O3.out.later hb)
    have l4 := hr4.lt
    clear hb hr4 c3
    go_wp2_with fail
    refine (i_BrakesIn _ n n L p q _ ((R4.out.sgs HS.out.1 (by omega) HS.out.2.2.2).later ((Later.refl _).alloc _))).mono ?_
    rintro e w5 ⟨v5, rfl, ho5, hb⟩
    have b5 : w4.heap.size < w5.heap.size := by have := hb.size; simp at this; omega
    have c5 : w5.cell? ⟨w.heap.size, 0, none⟩ = some (.slice a n cap) := (hb.cell (p := ⟨w.heap.size, 0, none⟩) (by rw [World.size_alloc]; exact Nat.lt_succ_of_lt b4)).trans ((World.cell?_alloc_lt w4 _ ⟨w.heap.size, 0, none⟩ b4).trans c4)
    have d5 : w5.cell? ⟨w4.heap.size, 0, none⟩ = some (.slice (some ⟨g4, 0, none⟩) n n) := by rw [hb.cell (p := ⟨w4.heap.size, 0, none⟩) (by simp)]; simp
    have W5 : Hid (Later w w5) := Lib.hid ((W4.out.alloc _).trans hb)
    have R5 := Lib.hid (R4.out.later (((Later.refl _).alloc _).trans hb))
    have P5 := Lib.hid (O4.out.later (((Later.refl _).alloc _).trans hb))
    have O5 := Lib.hid ho5
    rw [World.size_alloc] at ho5
    have l5 := ho5.lt
    have Q5 := Lib.hid ho5
    clear hb c4 ho5
    obtain ⟨a3, cap3, rfl, s3, _⟩ := P5.out.sl
    obtain ⟨a5, cap5, rfl, s5, _⟩ := Q5.out.sl
    have S3 := Lib.hid s3; have S5 := Lib.hid s5
    clear s3 s5
    go_wp2_with fail
    refine (l_eqI _ _ _ _ _ _ _ _ S5.out S3.out).mono ?_
    rintro e w6 ⟨rfl, hb⟩
    have K6 := Lib.hid (two_cells c5 (by omega) d5 b5 hb)
    have B6 : w4.heap.size < w6.heap.size := Nat.lt_of_lt_of_le b5 hb.size
    have W6 : Hid (Later w w6) := Lib.hid (W5.out.trans hb)
    have R6 := Lib.hid (R5.out.later hb)
    have P6 := Lib.hid (P5.out.later hb)
    have Q6 := Lib.hid (Q5.out.later hb)
    obtain ⟨c6, d6⟩ := K6.out
    clear hb c5 d5 S3 S5
    go_wp2_with fail
    go_region_held3 (fun w' => w'.cell? ⟨w.heap.size, 0, none⟩ = some (.slice a n cap) ∧ w'.cell? ⟨w4.heap.size, 0, none⟩ = some (.slice (some ⟨g4, 0, none⟩) n n))
      (exact two_cells K6.out.1 (Nat.lt_trans b4 B6) K6.out.2 B6 (by repeat (first | (with_reducible exact Later.refl _) | (with_reducible exact Hid.out (by assumption)) | (with_reducible refine Later.alloc ?_ _) | (with_reducible refine Later.drewN ?_ _) | (with_reducible refine Later.drew ?_) | (with_reducible refine Later.trans ?_ (Hid.out (by assumption))))))
      (first
        | (go_at_call 20; refine (l_toLayout a n cap L _ (HS.out.later (by repeat (first | (with_reducible exact Later.refl _) | (with_reducible exact Hid.out (by assumption)) | (with_reducible refine Later.alloc ?_ _) | (with_reducible refine Later.drewN ?_ _) | (with_reducible refine Later.drew ?_) | (with_reducible refine Later.trans ?_ (Hid.out (by assumption)))))) hle).mono ?_; rintro e w7 ⟨g7, rfl, hg7, hr7, hb7⟩; have H7 := Lib.hid hb7; have S7 := Lib.hid (hr7.sgs HS.out.1 (by omega) HS.out.2.2.2); clear hb7 hr7 hg7)
        | (go_at_call 23; refine (l_eqLayout_same _ _ n n n n L _ ((R6.out.sgs HS.out.1 (by omega) HS.out.2.2.2).later (by repeat (first | (with_reducible exact Later.refl _) | (with_reducible exact Hid.out (by assumption)) | (with_reducible refine Later.alloc ?_ _) | (with_reducible refine Later.drewN ?_ _) | (with_reducible refine Later.drew ?_) | (with_reducible refine Later.trans ?_ (Hid.out (by assumption)))))) (S7.out.later (by repeat (first | (with_reducible exact Later.refl _) | (with_reducible exact Hid.out (by assumption)) | (with_reducible refine Later.alloc ?_ _) | (with_reducible refine Later.drewN ?_ _) | (with_reducible refine Later.drew ?_) | (with_reducible refine Later.trans ?_ (Hid.out (by assumption))))))).mono ?_; rintro e w8 ⟨rfl, hb8⟩; have H8 := Lib.hid hb8; clear hb8))
    go_wp2_with fail
    refine calls_into (fun W => Later w6 W) (by repeat (first | (with_reducible exact Later.refl _) | (with_reducible exact Hid.out (by assumption)) | (with_reducible refine Later.alloc ?_ _) | (with_reducible refine Later.drewN ?_ _) | (with_reducible refine Later.drew ?_) | (with_reducible refine Later.trans ?_ (Hid.out (by assumption))))) ?_
    intro W hb
    have l3 := P6.out.lt
    have K7 := Lib.hid (two_cells c6 (by omega) d6 B6 hb)
    have B7 : w4.heap.size < W.heap.size := Nat.lt_of_lt_of_le B6 hb.size
    have W7 : Hid (Later w W) := Lib.hid (W6.out.trans hb)
    have R7 := Lib.hid (R6.out.later hb)
    have P7 := Lib.hid (P6.out.later hb)
    have Q7 := Lib.hid (Q6.out.later hb)
    have PL := Lib.hid O3.out.lt
    have z34 := Nat.le_of_lt (Nat.lt_of_le_of_lt hg4 l4)
    have QL := Lib.hid l5
    obtain ⟨c7, d7⟩ := K7.out
    clear hb c6 d6 K6 l3 l5
    refine (l_markLayout g4 n n (flt L) _ R7.out hle).mono ?_
    rintro e w9 ⟨rfl, hr9, hg9⟩
    have P9 := Lib.hid (P7.out.kept2 hg9 (fun k hk e => by have h1 := PL.out k hk; have h2 := Option.some.inj e; omega))
    have Q9 := Lib.hid (Q7.out.kept2 hg9 (fun k hk e => by have h1 := (QL.out k hk).1; have h2 := Option.some.inj e; omega))
    have W9 : Hid (Later w w9) := Lib.hid (later_grow W7.out hg9 (fun k e => by have h2 := Option.some.inj e; omega))
    have c9 : w9.cell? ⟨w.heap.size, 0, none⟩ = some (.slice a n cap) := hg9.cell c7 (by simp; omega)
    have B9 : w4.heap.size < w9.heap.size := Nat.lt_of_lt_of_le B7 hg9.size
    clear hr9 hg9 c7 d7
    obtain ⟨a9, cap9, e9, s9, _⟩ := P9.out.sl
    obtain ⟨a9', cap9', e9', s9', _⟩ := Q9.out.sl
    cases e9; cases e9'
    have S9 := Lib.hid s9; have S9' := Lib.hid s9'
    clear s9 s9'
    go_wp2_with fail
    refine (l_eqI _ _ _ _ _ _ _ _ S9'.out S9.out).mono ?_
    rintro e w10 ⟨rfl, hb⟩
    have P10 := Lib.hid (P9.out.later hb)
    have Q10 := Lib.hid (Q9.out.later hb)
    have W10 : Hid (Later w w10) := Lib.hid (W9.out.trans hb)
    have c10 : w10.cell? ⟨w.heap.size, 0, none⟩ = some (.slice a n cap) := by rw [hb.cell (p := ⟨w.heap.size, 0, none⟩) (by show w.heap.size < w9.heap.size; omega)]; exact c9
    have B10 : w4.heap.size < w10.heap.size := Nat.lt_of_lt_of_le B9 hb.size
    clear hb c9 S9 S9'
    go_wp2_with fail
    refine (l_markInt64S _ _ _ _ Q10.out (by omega)).mono ?_
    rintro e w11 ⟨rfl, ho, hg⟩
    have M11 := Lib.hid ho
    have P11 := Lib.hid (P10.out.kept2 hg (fun k hk e => by have h1 := PL.out k hk; have h2 := (QL.out k e).1; omega))
    have W11 : Hid (Later w w11) := Lib.hid (later_grow W10.out hg (fun k e => by have h2 := (QL.out k e).1; omega))
    have c11 : w11.cell? ⟨w.heap.size, 0, none⟩ = some (.slice a n cap) := hg.cell c10 (fun e => by have h2 := (QL.out _ e.symm).1; simp at h2; omega)
    have B11 : w4.heap.size < w11.heap.size := Nat.lt_of_lt_of_le B10 hg.size
    clear ho hg c10
    go_wp2_with fail
    refine (l_heldInt64S _ _ _ _ M11.out (by omega)).mono ?_
    rintro e w' ⟨rfl, rfl⟩
    go_wp2_with fail
    refine (l_toLayout a n cap L _ (HS.out.later W11.out) hle).mono ?_
    rintro e w12 ⟨g12, rfl, hg12, hr12, hb⟩
    have S12 := Lib.hid (hr12.sgs HS.out.1 (by omega) HS.out.2.2.2)
    have M12 := Lib.hid (M11.out.later hb)
    have P12 := Lib.hid (P11.out.later hb)
    have W12 : Hid (Later w w12) := Lib.hid (W11.out.trans hb)
    clear hb hr12 hg12 c11
    go_wp2_with fail
    refine (i_BrakesIn _ n n L p q _ S12.out).mono ?_
    rintro e w13 ⟨v13, rfl, ho13, hb⟩
    have M13 := Lib.hid (M12.out.later hb)
    have P13 := Lib.hid (P12.out.later hb)
    have W13 : Hid (Later w w13) := Lib.hid (W12.out.trans hb)
    obtain ⟨a13, cap13, rfl, s13, _⟩ := ho13.sl
    obtain ⟨b3', cap3', e3, s3, _⟩ := P13.out.sl
    cases e3
    have S13 := Lib.hid s13; have S3 := Lib.hid s3
    clear hb ho13 s13 s3
    go_wp2_with fail
    refine (l_eqI _ _ _ _ _ _ _ _ S13.out S3.out).mono ?_
    rintro e w14 ⟨rfl, hb⟩
    have M14 := Lib.hid (M13.out.later hb)
    have W14 : Hid (Later w w14) := Lib.hid (W13.out.trans hb)
    clear hb
    go_wp2_with fail
    refine (l_heldInt64S _ _ _ _ M14.out (by omega)).mono ?_
    rintro e w' ⟨rfl, rfl⟩
    go_wp2_with fail
    go_ret
    exact ⟨rfl, W14.out⟩
end Go.Proofs.Ytnmlkigpiaekjaa
