/- Contracts of chapter 3: positions, heights and beginnings: the model's functions. -/
import Derived.Test.YtkgjojnngankeaaSgU
import Derived.Test.YtkgjojnngankeaaDivD
import Derived.BigQuiet
import Derived.Deep.QuietTactic
namespace Go.Proofs.Ytkgjojnngankeaa
open Go.RowKit
set_option maxHeartbeats 2000000
set_option linter.unusedVariables false
set_option linter.unusedSimpArgs false
theorem s_l03At (a : Option Addr) (n cap : Nat) (L : List Sg) (p : Int) (k : Nat) (w : World) (hs : Sgs w a n L) (hp : -9223372036854775808 ≤ p) (hp2 : p ≤ 9223372036854775807) (hv : layB L = true) (h : IsAt L p k) :
    Calls Try.prog 43 #[.agg #[.slice a n cap], .int .i64 p] w fun e w' => e = .returned (.tuple #[.int .i64 k, .int .i64 (p - upL L k)]) ∧ Later w w' := by
  have HS := Lib.hid hs
  have HL := Lib.hid hs.1
  have hn := hs.2.1
  have HO := Lib.hid ((layB_iff L).1 hv).2.2.1
  have h24 := ((layB_iff L).1 hv).2.1
  rw [HL.out] at h24
  obtain ⟨k1, k2, k3⟩ := h
  rw [HL.out] at k1
  rw [upL_succ L k (by rw [HL.out]; exact k1)] at k3
  have MONO : ∀ j, j ≤ k → Hid (upL L j ≤ upL L k) := fun j hj => Lib.hid (upL_mono L j k hj (by rw [HL.out]; omega) HO.out)
  have MM := Lib.hid MONO
  clear hs hv MONO
  go_enter Try.func43, Try.ntmps43
  go_wp2_with fail
  go_loop [1, 6] (fun d i => ∃ j : Nat, j ≤ k ∧ i = .int .i64 j ∧ d = .int .i64 (p - upL L j)) (fun _ i => k - (intOf i).toNat)
  case atStart => exact ⟨0, by omega, rfl, by rw [upL_0]; simp⟩
  case round =>
    obtain ⟨j, hj, rfl, rfl⟩ := hrel
    obtain ⟨b', off', rfl, hb', hc⟩ := HS.out.at j (by omega)
    obtain ⟨c0, c1, c2, c3, c4, c5, c6⟩ := hc
    obtain ⟨_, _, bd1, bd2⟩ := up_bd L j (by rw [HL.out]; omega) (okB_le L L.length j (by rw [HL.out]; omega) HO.out)
    have hr := (sgB_iff _).1 (okB_at L L.length j (Nat.le_refl _) (by rw [HL.out]; omega) HO.out)
    have r1 := hr.2.1.1; have r2 := hr.2.1.2
    clear hr
    by_cases hlt : j < k
    · have hm := (MM.out (j + 1) (by omega)).out
      rw [upL_succ L j (by rw [HL.out]; omega)] at hm
      have hge : (sx L j).l ≤ p - upL L j := by omega
      clear hm
      go_wp2
      go_round
      case rel => exact ⟨j + 1, by omega, by go_num, by rw [upL_succ L j (by rw [HL.out]; omega)]; go_num⟩
      case measure => simp [intOf]; omega
    · obtain rfl : j = k := by omega
      have hlt2 : p - upL L j < (sx L j).l := by omega
      go_wp2
      go_ret2
      exact ⟨rfl, (by repeat (first | exact Later.refl _ | exact Hid.out (by assumption) | refine Later.set_at ?_ ?_ _ _ | refine Later.alloc ?_ _ | refine Later.drewN ?_ _ | refine Later.drew ?_ | refine Later.trans ?_ (Hid.out (by assumption))))⟩
theorem s_l03Code (a : Option Addr) (n cap : Nat) (L : List Sg) (p : Int) (w : World) (hs : Sgs w a n L) (hp : -9223372036854775808 ≤ p) (hp2 : p ≤ 9223372036854775807) :
    Calls Try.prog 42 #[.agg #[.slice a n cap], .int .i64 p] w fun e w' => e = .returned (.int .i64 (posE L p)) ∧ Later w w' := by
  have HS := Lib.hid hs
  have HL := Lib.hid hs.1
  clear hs
  cases hv : layB L
  · have HE := Lib.hid (posE_bad (p := p) hv)
    go_enter Try.func42, Try.ntmps42
    go_wp2_with (go_at_call 27; refine (s_IsLayout a n cap L _ (HS.out.later (by repeat (first | exact Later.refl _ | refine Later.alloc ?_ _ | refine Later.trans ?_ (Hid.out (by assumption)))))).mono ?_; rw [hv]; rintro e w1 ⟨rfl, hb⟩; obtain ⟨H, hcc, hff, hzz⟩ := later_facts hb; clear hb; (try simp at hzz); (try simp only [World.heap_drewN, World.cell?_drewN, World.frozen?_drewN] at hcc hff))
    go_ret
    exact ⟨ret_i64 (by rw [HE.out]), (by repeat (first | exact Later.refl _ | exact Hid.out (by assumption) | refine Later.set_at ?_ ?_ _ _ | refine Later.alloc ?_ _ | refine Later.drewN ?_ _ | refine Later.drew ?_ | refine Later.trans ?_ (Hid.out (by assumption))))⟩
  · have HO := Lib.hid ((layB_iff L).1 hv).2.2.1
    have h24 := ((layB_iff L).1 hv).2.1
    rw [HL.out] at h24
    obtain ⟨_, _, t1, t2⟩ := up_bd L L.length (Nat.le_refl _) HO.out
    have t3 : 0 ≤ totL L ∧ totL L ≤ 4800000 := by unfold totL; rw [HL.out] at t1 t2 ⊢; omega
    obtain ⟨t3, t4⟩ := t3
    clear t1 t2
    by_cases hin : 0 ≤ p ∧ p ≤ totL L - 1
    · have HE : Hid (posE L p = 0) := Lib.hid (by unfold posE; rw [if_pos hv, if_pos (by omega)])
      obtain ⟨q1, q2⟩ := hin
      go_enter Try.func42, Try.ntmps42
      go_wp2_with (first
        | (go_at_call 27; refine (s_IsLayout a n cap L _ (HS.out.later (by repeat (first | exact Later.refl _ | refine Later.alloc ?_ _ | refine Later.trans ?_ (Hid.out (by assumption)))))).mono ?_; rw [hv]; rintro e w1 ⟨rfl, hb⟩; obtain ⟨H, hcc, hff, hzz⟩ := later_facts hb; clear hb; (try simp at hzz); (try simp only [World.heap_drewN, World.cell?_drewN, World.frozen?_drewN] at hcc hff))
        | (go_at_call 58; refine (s_Total a n cap L _ (HS.out.later (by repeat (first | exact Later.refl _ | refine Later.alloc ?_ _ | refine Later.trans ?_ (Hid.out (by assumption))))) HO.out h24).mono ?_; rintro e w2 ⟨rfl, hb⟩; have H2 := Lib.hid hb; clear hb)
        | (go_at_call 46; refine (s_In _ _ _ _).mono ?_; rintro e w' ⟨rfl, rfl⟩))
      go_ret
      exact ⟨ret_i64 (by rw [HE.out]), (by repeat (first | exact Later.refl _ | exact Hid.out (by assumption) | refine Later.set_at ?_ ?_ _ _ | refine Later.alloc ?_ _ | refine Later.drewN ?_ _ | refine Later.drew ?_ | refine Later.trans ?_ (Hid.out (by assumption))))⟩
    · have HE := Lib.hid (posE_out hv (p := p) (by omega))
      have d : (decide (0 ≤ p) && decide (p ≤ totL L - 1)) = false := by simpa using hin
      clear hin
      go_enter Try.func42, Try.ntmps42
      go_wp2_with (first
        | (go_at_call 27; refine (s_IsLayout a n cap L _ (HS.out.later (by repeat (first | exact Later.refl _ | refine Later.alloc ?_ _ | refine Later.trans ?_ (Hid.out (by assumption)))))).mono ?_; rw [hv]; rintro e w1 ⟨rfl, hb⟩; obtain ⟨H, hcc, hff, hzz⟩ := later_facts hb; clear hb; (try simp at hzz); (try simp only [World.heap_drewN, World.cell?_drewN, World.frozen?_drewN] at hcc hff))
        | (go_at_call 58; refine (s_Total a n cap L _ (HS.out.later (by repeat (first | exact Later.refl _ | refine Later.alloc ?_ _ | refine Later.trans ?_ (Hid.out (by assumption))))) HO.out h24).mono ?_; rintro e w2 ⟨rfl, hb⟩; have H2 := Lib.hid hb; clear hb)
        | (go_at_call 46; refine (s_In _ _ _ _).mono ?_; rintro e w' ⟨rfl, rfl⟩))
      go_ret
      exact ⟨ret_i64 (by rw [HE.out]), (by repeat (first | exact Later.refl _ | exact Hid.out (by assumption) | refine Later.set_at ?_ ?_ _ _ | refine Later.alloc ?_ _ | refine Later.drewN ?_ _ | refine Later.drew ?_ | refine Later.trans ?_ (Hid.out (by assumption))))⟩
theorem ret_3i' {a b c d e f : Int} (h : a = d) (k : b = e) (l : c = f) : Ending.returned (.tuple #[.int .i64 a, .int .i64 b, .int .i64 c]) = .returned (.tuple #[.int .i64 d, .int .i64 e, .int .i64 f]) := by rw [h, k, l]
theorem s_SegmentAt (a : Option Addr) (n cap : Nat) (L : List Sg) (p : Int) (w : World) (hs : Sgs w a n L) (hp : -9223372036854775808 ≤ p) (hp2 : p ≤ 9223372036854775807) :
    Calls Try.prog 15 #[.agg #[.slice a n cap], .int .i64 p] w fun e w' => e = .returned (.tuple #[.int .i64 (posK L p), .int .i64 (posO L p), .int .i64 (posE L p)]) ∧ Later w w' := by
  have HS := Lib.hid hs
  have HL := Lib.hid hs.1
  clear hs
  by_cases he : posE L p = 0
  · obtain ⟨hv, h0, h1⟩ := posE_ok he
    obtain ⟨k, hk⟩ : ∃ k, IsAt L p k := ⟨_, pos_at he⟩
    have HP := Lib.hid (pos_in hv hk h0)
    have HK := Lib.hid hk
    have HV := Lib.hid hv
    have HE := Lib.hid he
    clear hv hk h1 he
    go_enter Try.func15, Try.ntmps15
    go_wp2_with (first
      | (go_at_call 42; refine (s_l03Code a n cap L p _ (HS.out.later (by repeat (first | exact Later.refl _ | refine Later.alloc ?_ _ | refine Later.trans ?_ (Hid.out (by assumption))))) hp hp2).mono ?_; rw [HE.out]; rintro e w1 ⟨rfl, hb⟩; obtain ⟨H, hcc, hff, hzz⟩ := later_facts hb; clear hb; (try simp at hzz); (try simp only [World.heap_drewN, World.cell?_drewN, World.frozen?_drewN] at hcc hff))
      | (go_at_call 43; refine (s_l03At a n cap L p k _ (HS.out.later (by repeat (first | exact Later.refl _ | refine Later.alloc ?_ _ | refine Later.trans ?_ (Hid.out (by assumption))))) hp hp2 HV.out HK.out).mono ?_; rintro e w2 ⟨rfl, hb⟩; have H2 := Lib.hid hb; clear hb))
    go_ret3
    exact ⟨ret_3i' (by rw [HP.out.2.1]) (by rw [HP.out.2.2.1]) (by rw [HP.out.1]), (by repeat (first | exact Later.refl _ | exact Hid.out (by assumption) | refine Later.set_at ?_ ?_ _ _ | refine Later.alloc ?_ _ | refine Later.drewN ?_ _ | refine Later.drew ?_ | refine Later.trans ?_ (Hid.out (by assumption))))⟩
  · have e0 : (posE L p != 0) = true := by simpa using he
    have HT := Lib.hid (pos_no (L := L) (p := p) _ he rfl)
    clear he
    go_enter Try.func15, Try.ntmps15
    go_wp2_with (go_at_call 42; refine (s_l03Code a n cap L p _ (HS.out.later (by repeat (first | exact Later.refl _ | refine Later.alloc ?_ _ | refine Later.trans ?_ (Hid.out (by assumption))))) hp hp2).mono ?_; rintro e w1 ⟨rfl, hb⟩; obtain ⟨H, hcc, hff, hzz⟩ := later_facts hb; clear hb; (try simp at hzz); (try simp only [World.heap_drewN, World.cell?_drewN, World.frozen?_drewN] at hcc hff))
    go_ret3
    exact ⟨ret_3i' (by rw [HT.out.1]) (by rw [HT.out.2.1]) rfl, (by repeat (first | exact Later.refl _ | exact Hid.out (by assumption) | refine Later.set_at ?_ ?_ _ _ | refine Later.alloc ?_ _ | refine Later.drewN ?_ _ | refine Later.drew ?_ | refine Later.trans ?_ (Hid.out (by assumption))))⟩
theorem mul_rise' (x y : Int) (h1 : -100000 ≤ x) (h2 : x ≤ 100000) (h3 : 0 ≤ y) (h4 : y ≤ 200000) : -20000000000 ≤ x * y ∧ x * y ≤ 20000000000 := by
  have a : x * y ≤ 100000 * y := Int.mul_le_mul_of_nonneg_right h2 h3
  have b : -100000 * y ≤ x * y := Int.mul_le_mul_of_nonneg_right h1 h3
  omega
theorem s_Floor' (a b : Int) (w : World) (h1 : -1000000000000 ≤ a) (h2 : a ≤ 1000000000000) (h3 : 1 ≤ b) (h4 : b ≤ 1000000000000) :
    Calls Try.prog 45 #[.int .i64 a, .int .i64 b] w fun e w' => e = .returned (.int .i64 (flo a b)) ∧ w' = w := (s_Floor a b w h1 h2 (by omega) h4 (by omega)).mono fun _ _ ⟨h, k⟩ => ⟨h, k.symm⟩
set_option maxRecDepth 100000 in
theorem s_HeightAt (a : Option Addr) (n cap : Nat) (L : List Sg) (p : Int) (w : World) (hs : Sgs w a n L) (hp : -9223372036854775808 ≤ p) (hp2 : p ≤ 9223372036854775807) :
    Calls Try.prog 20 #[.agg #[.slice a n cap], .int .i64 p] w fun e w' => e = .returned (.tuple #[.int .i64 (posH L p), .int .i64 (posE L p)]) ∧ Later w w' := by
  have HS := Lib.hid hs
  have HL := Lib.hid hs.1
  have hn := hs.2.1
  clear hs
  by_cases he : posE L p = 0
  · obtain ⟨hv, h0, h1⟩ := posE_ok he
    obtain ⟨k, hk⟩ : ∃ k, IsAt L p k := ⟨_, pos_at he⟩
    have HP := Lib.hid (pos_in hv hk h0)
    have HK := Lib.hid hk
    have HV := Lib.hid hv
    have HE := Lib.hid he
    have HO := Lib.hid ((layB_iff L).1 hv).2.2.1
    have h24 := ((layB_iff L).1 hv).2.1
    rw [HL.out] at h24
    obtain ⟨k1, k2, k3⟩ := hk
    rw [HL.out] at k1
    rw [upL_succ L k (by rw [HL.out]; exact k1)] at k3
    clear hv h1 he
    go_enter Try.func20, Try.ntmps20
    go_wp2_with fail
    refine (s_l03Code a n cap L p _ (HS.out.later ((Later.refl _).alloc _)) hp hp2).mono ?_
    rw [HE.out]
    rintro e w1 ⟨rfl, hb⟩
    have hsz : w.heap.size < w1.heap.size := by have := hb.size; simp at this; omega
    have cb0 : w1.cell? ⟨w.heap.size, 0, none⟩ = some (.slice a n cap) := by rw [hb.cell (p := ⟨w.heap.size, 0, none⟩) (by simp)]; simp
    have W1 : Hid (Later w w1) := Lib.hid (((Later.refl _).alloc _).trans hb)
    clear hb
    go_wp2_with fail
    refine (s_l03At a n cap L p k _ (HS.out.later W1.out) hp hp2 HV.out HK.out).mono ?_
    rintro e w2 ⟨rfl, hb⟩
    have W2 : Hid (Later w w2) := Lib.hid (W1.out.trans hb)
    have cb : w2.cell? ⟨w.heap.size, 0, none⟩ = some (.slice a n cap) := by rw [hb.cell (p := ⟨w.heap.size, 0, none⟩) hsz]; exact cb0
    clear hb cb0 W1
    go_wp2_with fail
    go_loop [9, 10] (fun h i => ∃ j : Nat, j ≤ k ∧ i = .int .i64 j ∧ h = .int .i64 (upR L j)) (fun _ i => k - (intOf i).toNat)
    case atStart => exact ⟨0, by omega, rfl, by rw [upR_0]⟩
    case round =>
      obtain ⟨j, hj, rfl, rfl⟩ := hrel
      obtain ⟨bd1, bd2, _, _⟩ := up_bd L j (by rw [HL.out]; omega) (okB_le L L.length j (by rw [HL.out]; omega) HO.out)
      have hr := (sgB_iff _).1 (okB_at L L.length j (Nat.le_refl _) (by rw [HL.out]; omega) HO.out)
      have r1 := hr.2.1.1; have r2 := hr.2.1.2; have r3 := hr.2.2.1.1; have r4 := hr.2.2.1.2.1
      clear hr
      obtain ⟨b', off', rfl, hb', hc⟩ := (HS.out.later W2.out).at j (by omega)
      obtain ⟨c0, c1, c2, c3, c4, c5, c6⟩ := hc
      by_cases hlt : j < k
      · go_wp2
        go_round
        case rel => exact ⟨j + 1, by omega, by go_num, by rw [upR_succ L j (by rw [HL.out]; omega)]⟩
        case measure => simp [intOf]; omega
      · obtain rfl : j = k := by omega
        obtain ⟨m1, m2⟩ := mul_rise' (sx L j).r (p - upL L j) r3 r4 (by omega) (by omega)
        obtain ⟨f1, f2⟩ := flo_bd ((sx L j).r * (p - upL L j)) (sx L j).l 20000000000 m1 m2
        go_wp2_with fail
        go_quiet ((go_at_call 45; exact Calls.quiet_of_same (s_Floor' _ _ _ (by omega) (by omega) (by omega) (by omega))))
        go_wp2_with fail
        go_ret2
        exact ⟨ret_2i (by rw [HP.out.2.2.2]) (by rw [HP.out.1]), (by repeat (first | exact Later.refl _ | exact Hid.out (by assumption) | refine Later.set_at ?_ ?_ _ _ | refine Later.alloc ?_ _ | refine Later.drewN ?_ _ | refine Later.drew ?_ | refine Later.trans ?_ (Hid.out (by assumption))))⟩
  · have e0 : (posE L p != 0) = true := by simpa using he
    have HT := Lib.hid (pos_no (L := L) (p := p) _ he rfl)
    clear he
    go_enter Try.func20, Try.ntmps20
    go_wp2_with (go_at_call 42; refine (s_l03Code a n cap L p _ (HS.out.later (by repeat (first | exact Later.refl _ | refine Later.alloc ?_ _ | refine Later.trans ?_ (Hid.out (by assumption))))) hp hp2).mono ?_; rintro e w1 ⟨rfl, hb⟩; obtain ⟨H, hcc, hff, hzz⟩ := later_facts hb; clear hb; (try simp at hzz); (try simp only [World.heap_drewN, World.cell?_drewN, World.frozen?_drewN] at hcc hff))
    go_ret2
    exact ⟨ret_2i (by rw [HT.out.2.2]) rfl, (by repeat (first | exact Later.refl _ | exact Hid.out (by assumption) | refine Later.set_at ?_ ?_ _ _ | refine Later.alloc ?_ _ | refine Later.drewN ?_ _ | refine Later.drew ?_ | refine Later.trans ?_ (Hid.out (by assumption))))⟩
end Go.Proofs.Ytkgjojnngankeaa
