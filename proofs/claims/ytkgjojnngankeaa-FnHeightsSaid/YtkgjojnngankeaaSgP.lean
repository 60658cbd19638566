/- Contracts of chapter 3: segments of positions, heights of positions, of the program. -/
import Derived.Test.YtkgjojnngankeaaSgI
import Derived.RegionTactic
import Derived.IntWalk
import Derived.Test.YtkgjojnngankeaaDivD
namespace Go.Proofs.Ytkgjojnngankeaa
open Go.RowKit
set_option maxHeartbeats 2000000
set_option linter.unusedVariables false
set_option linter.unusedSimpArgs false
theorem ret_3i {a b c d e f : Int} (h : a = d) (k : b = e) (l : c = f) : Ending.returned (.tuple #[.int .i64 a, .int .i64 b, .int .i64 c]) = .returned (.tuple #[.int .i64 d, .int .i64 e, .int .i64 f]) := by rw [h, k, l]
set_option maxRecDepth 100000 in
theorem i_SegmentAt (a : Option Addr) (n cap : Nat) (L : List Sg) (p : Int) (w : World) (hs : Sgs w a n L) (hp : -9223372036854775808 ≤ p) (hp2 : p ≤ 9223372036854775807) :
    Calls Try.prog 14 #[.agg #[.slice a n cap], .int .i64 p] w fun e w' => e = .returned (.tuple #[.int .i64 (posK L p), .int .i64 (posO L p), .int .i64 (posE L p)]) ∧ Later w w' := by
  have HS := Lib.hid hs
  have HL := Lib.hid hs.1
  have hn := hs.2.1
  clear hs
  cases hv : layB L
  · have HT := Lib.hid (pos_no 1 (by omega) (posE_bad (p := p) hv))
    have HE := Lib.hid (posE_bad (p := p) hv)
    go_enter Try.func14, Try.ntmps14
    go_wp2_with (go_at_call 29; refine (i_IsLayout a n cap L _ (HS.out.later ((Later.refl _).alloc _))).mono ?_; rw [hv]; rintro e w1 ⟨rfl, hb⟩; obtain ⟨H, hcc, hff, hzz⟩ := later_facts hb; clear hb; (try simp at hzz); (try simp only [World.heap_drewN, World.cell?_drewN, World.frozen?_drewN] at hcc hff))
    go_ret3
    exact ⟨ret_3i (by rw [HT.out.1]) (by rw [HT.out.2.1]) (by rw [HE.out]), (by repeat (first | exact Later.refl _ | exact Hid.out (by assumption) | refine Later.set_at ?_ ?_ _ _ | refine Later.alloc ?_ _ | refine Later.drewN ?_ _ | refine Later.drew ?_ | refine Later.trans ?_ (Hid.out (by assumption))))⟩
  · by_cases h0 : p < 0
    · have HE := Lib.hid (posE_out hv (.inl h0))
      have HT := Lib.hid (pos_no 2 (by omega) HE.out)
      go_enter Try.func14, Try.ntmps14
      go_wp2_with (go_at_call 29; refine (i_IsLayout a n cap L _ (HS.out.later ((Later.refl _).alloc _))).mono ?_; rw [hv]; rintro e w1 ⟨rfl, hb⟩; obtain ⟨H, hcc, hff, hzz⟩ := later_facts hb; clear hb; (try simp at hzz); (try simp only [World.heap_drewN, World.cell?_drewN, World.frozen?_drewN] at hcc hff))
      go_ret3
      exact ⟨ret_3i (by rw [HT.out.1]) (by rw [HT.out.2.1]) (by rw [HE.out]), (by repeat (first | exact Later.refl _ | exact Hid.out (by assumption) | refine Later.set_at ?_ ?_ _ _ | refine Later.alloc ?_ _ | refine Later.drewN ?_ _ | refine Later.drew ?_ | refine Later.trans ?_ (Hid.out (by assumption))))⟩
    · have h0 : 0 ≤ p := by omega
      have HO := Lib.hid ((layB_iff L).1 hv).2.2.1
      have HV := Lib.hid hv
      have h24 := ((layB_iff L).1 hv).2.1
      rw [HL.out] at h24
      go_enter Try.func14, Try.ntmps14
      go_wp2_with (go_at_call 29; refine (i_IsLayout a n cap L _ (HS.out.later ((Later.refl _).alloc _))).mono ?_; rw [hv]; rintro e w1 ⟨rfl, hb⟩; obtain ⟨H, hcc, hff, hzz⟩ := later_facts hb; clear hb; (try simp at hzz); (try simp only [World.heap_drewN, World.cell?_drewN, World.frozen?_drewN] at hcc hff))
      clear hv hcc hff hzz
      go_loopw [7, 19] (fun d i wr => ∃ k : Nat, k ≤ n ∧ i = .int .i64 k ∧ d = .int .i64 (p - upL L k) ∧ 0 ≤ p - upL L k ∧ Later w wr) (fun _ i _ => n - (intOf i).toNat)
      case atStart => exact ⟨0, by omega, rfl, by rw [upL_0]; simp, by rw [upL_0]; omega, (by repeat (first | exact Later.refl _ | exact Hid.out (by assumption) | refine Later.set_at ?_ ?_ _ _ | refine Later.alloc ?_ _ | refine Later.drewN ?_ _ | refine Later.drew ?_ | refine Later.trans ?_ (Hid.out (by assumption))))⟩
      case round =>
        obtain ⟨k, hk, rfl, rfl, hd, hlw⟩ := hrel
        have HW := Lib.hid hlw
        clear hlw
        by_cases hlt : k < n
        · obtain ⟨b', off', rfl, hb', hc⟩ := (HS.out.later HW.out).at k hlt
          obtain ⟨c0, c1, c2, c3, c4, c5, c6⟩ := hc
          obtain ⟨_, _, bd1, bd2⟩ := up_bd L k (by rw [HL.out]; exact hk) (okB_le L L.length k (by rw [HL.out]; exact hk) HO.out)
          have hr := (sgB_iff _).1 (okB_at L L.length k (Nat.le_refl _) (by rw [HL.out]; exact hlt) HO.out)
          have r1 := hr.2.1.1; have r2 := hr.2.1.2
          clear hr
          by_cases hin : p - upL L k < (sx L k).l
          · have HP := Lib.hid (pos_in HV.out (k := k) (p := p) ⟨by rw [HL.out]; exact hlt, by omega, by rw [upL_succ L k (by rw [HL.out]; exact hlt)]; omega⟩ h0)
            go_wp2
            go_ret3
            exact ⟨ret_3i (by rw [HP.out.2.1]) (by rw [HP.out.2.2.1]) (by rw [HP.out.1]), (by repeat (first | exact Later.refl _ | exact Hid.out (by assumption) | refine Later.set_at ?_ ?_ _ _ | refine Later.alloc ?_ _ | refine Later.drewN ?_ _ | refine Later.drew ?_ | refine Later.trans ?_ (Hid.out (by assumption))))⟩
          · have hin2 : (sx L k).l ≤ p - upL L k := by omega
            clear hin
            go_wp2
            go_roundw
            case rel => exact ⟨k + 1, by omega, by go_num, by rw [upL_succ L k (by rw [HL.out]; exact hlt)]; go_num, by rw [upL_succ L k (by rw [HL.out]; exact hlt)]; omega, (by repeat (first | exact Later.refl _ | exact Hid.out (by assumption) | refine Later.set_at ?_ ?_ _ _ | refine Later.alloc ?_ _ | refine Later.drewN ?_ _ | refine Later.drew ?_ | refine Later.trans ?_ (Hid.out (by assumption))))⟩
            case measure => simp [intOf]; omega
        · obtain rfl : k = n := by omega
          have HE := Lib.hid (posE_out HV.out (p := p) (.inr (by unfold totL; rw [HL.out]; omega)))
          have HT := Lib.hid (pos_no 2 (by omega) HE.out)
          go_wp2
          go_ret3
          exact ⟨ret_3i (by rw [HT.out.1]) (by rw [HT.out.2.1]) (by rw [HE.out]), (by repeat (first | exact Later.refl _ | exact Hid.out (by assumption) | refine Later.set_at ?_ ?_ _ _ | refine Later.alloc ?_ _ | refine Later.drewN ?_ _ | refine Later.drew ?_ | refine Later.trans ?_ (Hid.out (by assumption))))⟩
theorem i_SegmentAt_in (a : Option Addr) (n cap : Nat) (L : List Sg) (p : Int) (k : Nat) (w : World) (hs : Sgs w a n L) (hp : -9223372036854775808 ≤ p) (hp2 : p ≤ 9223372036854775807) (hv : layB L = true) (h : IsAt L p k) (h0 : 0 ≤ p) :
    Calls Try.prog 14 #[.agg #[.slice a n cap], .int .i64 p] w fun e w' => e = .returned (.tuple #[.int .i64 k, .int .i64 (p - upL L k), .int .i64 0]) ∧ Later w w' := by
  obtain ⟨e1, e2, e3, _⟩ := pos_in hv h h0
  have c := i_SegmentAt a n cap L p w hs hp hp2
  rw [e1, e2, e3] at c
  exact c
theorem i_DivideDown_ok (a b : Int) (w : World) (h1 : -1000000000000 ≤ a) (h2 : a ≤ 1000000000000) (h3 : 1 ≤ b) (h4 : b ≤ 1000000000000) : Calls Try.prog 44 #[.int .i64 a, .int .i64 b] w fun e w' => e = .returned (.tuple #[.int .i64 (flo a b), .int .i64 0]) ∧ w = w' := by
  have c := i_DivideDown a b w
  have e : divErr a b = 0 := by
    unfold divErr
    have p1 := (isVB_iff a).2 ⟨h1, h2⟩
    have p2 := (isVB_iff b).2 ⟨by omega, by omega⟩
    rw [p1, p2]; simp; omega
  unfold divD at c
  rw [if_pos e, e] at c
  exact c
theorem mul_rise (x y : Int) (h1 : -100000 ≤ x) (h2 : x ≤ 100000) (h3 : 0 ≤ y) (h4 : y ≤ 200000) : -20000000000 ≤ x * y ∧ x * y ≤ 20000000000 := by
  have a : x * y ≤ 100000 * y := Int.mul_le_mul_of_nonneg_right h2 h3
  have b : -100000 * y ≤ x * y := Int.mul_le_mul_of_nonneg_right h1 h3
  omega
set_option maxRecDepth 100000 in
theorem i_HeightAt (a : Option Addr) (n cap : Nat) (L : List Sg) (p : Int) (w : World) (hs : Sgs w a n L) (hcap : n ≤ cap) (hp : -9223372036854775808 ≤ p) (hp2 : p ≤ 9223372036854775807) :
    Calls Try.prog 19 #[.agg #[.slice a n cap], .int .i64 p] w fun e w' => e = .returned (.tuple #[.int .i64 (posH L p), .int .i64 (posE L p)]) ∧ Later w w' := by
  have HS := Lib.hid hs
  have HL := Lib.hid hs.1
  have hn := hs.2.1
  clear hs
  by_cases he : posE L p = 0
  · obtain ⟨hv, h0, h1⟩ := posE_ok he
    obtain ⟨k, hk⟩ : ∃ k, IsAt L p k := ⟨_, pos_at he⟩
    have HP := Lib.hid (pos_in hv hk h0)
    have HK := Lib.hid hk
    have HO := Lib.hid ((layB_iff L).1 hv).2.2.1
    have HV := Lib.hid hv
    have h24 := ((layB_iff L).1 hv).2.1
    rw [HL.out] at h24
    obtain ⟨k1, k2, k3⟩ := hk
    rw [HL.out] at k1
    rw [upL_succ L k (by rw [HL.out]; exact k1)] at k3
    have hr := (sgB_iff _).1 (okB_at L L.length k (Nat.le_refl _) (by rw [HL.out]; exact k1) HO.out)
    have r1 := hr.2.1.1; have r2 := hr.2.1.2; have r3 := hr.2.2.1.1; have r4 := hr.2.2.1.2.1
    clear hr hv he h1
    obtain ⟨m1, m2⟩ := mul_rise (sx L k).r (p - upL L k) r3 r4 (by omega) (by omega)
    obtain ⟨f1, f2⟩ := flo_bd ((sx L k).r * (p - upL L k)) (sx L k).l 20000000000 m1 m2
    go_enter Try.func19, Try.ntmps19
    go_wp2_with fail
    refine (i_SegmentAt_in _ n cap L p k _ (HS.out.later ((Later.refl _).alloc _)) hp hp2 HV.out HK.out h0).mono ?_
    rintro e w1 ⟨rfl, hb⟩
    have cb : w1.cell? ⟨w.heap.size, 0, none⟩ = some (.slice a n cap) := by rw [hb.cell (p := ⟨w.heap.size, 0, none⟩) (by simp)]; simp
    have W1 : Hid (Later w w1) := Lib.hid (((Later.refl _).alloc _).trans hb)
    have hsz : w.heap.size < w1.heap.size := by have := hb.size; simp at this; omega
    obtain ⟨b, off, rfl, hbb, hc⟩ := (HS.out.later W1.out).at k k1
    obtain ⟨c0, c1, c2, c3, c4, c5, c6⟩ := hc
    clear hb
    go_wp2_with (go_at_call 44; refine (i_DivideDown_ok _ _ _ (by omega) (by omega) (by omega) (by omega)).mono ?_; rintro e w' ⟨rfl, rfl⟩)
    have hf := Lib.hid (rfl : flo ((sx L k).r * (p - upL L k)) (sx L k).l = flo ((sx L k).r * (p - upL L k)) (sx L k).l)
    generalize flo ((sx L k).r * (p - upL L k)) (sx L k).l = f at *
    clear c0 c1 c2 c3 c4 c5 c6 m1 m2 r1 r2 r3 r4
    go_loopw [10, 46] (fun h i wr => ∃ j : Nat, j ≤ k ∧ i = .int .i64 j ∧ h = .int .i64 (f + upR L j) ∧ Later w wr) (fun _ i _ => k - (intOf i).toNat)
    case atStart => exact ⟨0, by omega, rfl, by rw [upR_0]; simp, (by repeat (first | exact Later.refl _ | exact Hid.out (by assumption) | refine Later.set_at ?_ ?_ _ _ | refine Later.alloc ?_ _ | refine Later.drewN ?_ _ | refine Later.drew ?_ | refine Later.trans ?_ (Hid.out (by assumption))))⟩
    case round =>
      obtain ⟨j, hj, rfl, rfl, hlw⟩ := hrel
      have HW := Lib.hid hlw
      clear hlw cb hbb
      by_cases hlt : j < k
      · obtain ⟨b', off', hbo, hb', hc⟩ := (HS.out.later HW.out).at j (by omega)
        simp only [Option.some.injEq, Addr.mk.injEq, and_true] at hbo
        obtain ⟨rfl, rfl⟩ := hbo
        obtain ⟨c0, c1, c2, c3, c4, c5, c6⟩ := hc
        obtain ⟨bd1, bd2, _, _⟩ := up_bd L j (by rw [HL.out]; omega) (okB_le L L.length j (by rw [HL.out]; omega) HO.out)
        have hr := (sgB_iff _).1 (okB_at L L.length j (Nat.le_refl _) (by rw [HL.out]; omega) HO.out)
        have r1 := hr.2.2.1.1; have r2 := hr.2.2.1.2.1
        clear hr
        go_wp2
        go_roundw
        case rel => exact ⟨j + 1, by omega, by go_num, by rw [upR_succ L j (by rw [HL.out]; omega)]; go_num, (by repeat (first | exact Later.refl _ | exact Hid.out (by assumption) | refine Later.set_at ?_ ?_ _ _ | refine Later.alloc ?_ _ | refine Later.drewN ?_ _ | refine Later.drew ?_ | refine Later.trans ?_ (Hid.out (by assumption))))⟩
        case measure => simp [intOf]; omega
      · obtain rfl : j = k := by omega
        go_wp2
        go_ret2
        exact ⟨ret_2i (by rw [HP.out.2.2.2]; omega) (by rw [HP.out.1]), (by repeat (first | exact Later.refl _ | exact Hid.out (by assumption) | refine Later.set_at ?_ ?_ _ _ | refine Later.alloc ?_ _ | refine Later.drewN ?_ _ | refine Later.drew ?_ | refine Later.trans ?_ (Hid.out (by assumption))))⟩
  · have e0 : (posE L p != 0) = true := by simpa using he
    have HT := Lib.hid (pos_no (L := L) (p := p) _ he rfl)
    clear he
    go_enter Try.func19, Try.ntmps19
    go_wp2_with (go_at_call 14; refine (i_SegmentAt _ n cap L p _ (HS.out.later ((Later.refl _).alloc _)) hp hp2).mono ?_; rintro e w1 ⟨rfl, hb⟩; have H := Lib.hid hb; clear hb)
    go_ret2
    exact ⟨ret_2i (by rw [HT.out.2.2]) rfl, (by repeat (first | exact Later.refl _ | exact Hid.out (by assumption) | refine Later.set_at ?_ ?_ _ _ | refine Later.alloc ?_ _ | refine Later.drewN ?_ _ | refine Later.drew ?_ | refine Later.trans ?_ (Hid.out (by assumption))))⟩
end Go.Proofs.Ytkgjojnngankeaa
