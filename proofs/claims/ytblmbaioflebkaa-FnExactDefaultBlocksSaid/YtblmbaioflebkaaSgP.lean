/- Contracts of chapter 3: segments of positions, heights of positions, of the program. -/
import Derived.Test.YtblmbaioflebkaaSgI
import Derived.RegionTactic
import Derived.IntWalk
import Derived.Test.YtblmbaioflebkaaDivD
namespace Go.Proofs.Ytblmbaioflebkaa
open Go.RowKit
set_option maxHeartbeats 2000000
set_option linter.unusedVariables false
set_option linter.unusedSimpArgs false
theorem ret_3i {a b c d e f : Int} (h : a = d) (k : b = e) (l : c = f) : Ending.returned (.tuple #[.int .i64 a, .int .i64 b, .int .i64 c]) = .returned (.tuple #[.int .i64 d, .int .i64 e, .int .i64 f]) := by rw [h, k, l]
set_option maxRecDepth 100000 in
theorem i_SegmentAt (a : Option Addr) (n cap : Nat) (L : List Sg) (p : Int) (w : World) (hs : Sgs w a n L) (hp : -9223372036854775808 ≤ p) (hp2 : p ≤ 9223372036854775807) :
    Calls Try.prog 27 #[.agg #[.slice a n cap], .int .i64 p] w fun e w' => e = .returned (.tuple #[.int .i64 (posK L p), .int .i64 (posO L p), .int .i64 (posE L p)]) ∧ Later w w' := by
  have HS := Lib.hid hs
  have HL := Lib.hid hs.1
  have hn := hs.2.1
  clear hs
  cases hv : layB L
  · have HT := Lib.hid (pos_no 1 (by omega) (posE_bad (p := p) hv))
    have HE := Lib.hid (posE_bad (p := p) hv)
    go_enter Try.func27, Try.ntmps27
    go_wp2_with (go_at_call 47; refine (i_IsLayout a n cap L _ (HS.out.later ((Later.refl _).alloc _))).mono ?_; rw [hv]; rintro e w1 ⟨rfl, hb⟩; obtain ⟨H, hcc, hff, hzz⟩ := later_facts hb; clear hb; (try simp at hzz); (try simp only [World.heap_drewN, World.cell?_drewN, World.frozen?_drewN] at hcc hff))
    go_ret3
    exact ⟨ret_3i (by rw [HT.out.1]) (by rw [HT.out.2.1]) (by rw [HE.out]), (by repeat (first | exact Later.refl _ | exact Hid.out (by assumption) | refine Later.set_at ?_ ?_ _ _ | refine Later.alloc ?_ _ | refine Later.drewN ?_ _ | refine Later.drew ?_ | refine Later.trans ?_ (Hid.out (by assumption))))⟩
  · by_cases h0 : p < 0
    · have HE := Lib.hid (posE_out hv (.inl h0))
      have HT := Lib.hid (pos_no 2 (by omega) HE.out)
      go_enter Try.func27, Try.ntmps27
      go_wp2_with (go_at_call 47; refine (i_IsLayout a n cap L _ (HS.out.later ((Later.refl _).alloc _))).mono ?_; rw [hv]; rintro e w1 ⟨rfl, hb⟩; obtain ⟨H, hcc, hff, hzz⟩ := later_facts hb; clear hb; (try simp at hzz); (try simp only [World.heap_drewN, World.cell?_drewN, World.frozen?_drewN] at hcc hff))
      go_ret3
      exact ⟨ret_3i (by rw [HT.out.1]) (by rw [HT.out.2.1]) (by rw [HE.out]), (by repeat (first | exact Later.refl _ | exact Hid.out (by assumption) | refine Later.set_at ?_ ?_ _ _ | refine Later.alloc ?_ _ | refine Later.drewN ?_ _ | refine Later.drew ?_ | refine Later.trans ?_ (Hid.out (by assumption))))⟩
    · have h0 : 0 ≤ p := by omega
      have HO := Lib.hid ((layB_iff L).1 hv).2.2.1
      have HV := Lib.hid hv
      have h24 := ((layB_iff L).1 hv).2.1
      rw [HL.out] at h24
      go_enter Try.func27, Try.ntmps27
      go_wp2_with (go_at_call 47; refine (i_IsLayout a n cap L _ (HS.out.later ((Later.refl _).alloc _))).mono ?_; rw [hv]; rintro e w1 ⟨rfl, hb⟩; obtain ⟨H, hcc, hff, hzz⟩ := later_facts hb; clear hb; (try simp at hzz); (try simp only [World.heap_drewN, World.cell?_drewN, World.frozen?_drewN] at hcc hff))
      clear hv hcc hff hzz
      go_loopw [7, 19] (fun d i wr => ∃ k : Nat, k ≤ n ∧ i = .int .i64 k ∧ d = .int .i64 (p - upL L k) ∧ 0 ≤ p - upL L k ∧ Later w wr) (fun _ i _ => n - (intOf i).toNat)
      case atStart => exact ⟨0, by omega, rfl, by rw [upL_0]; simp, by rw [upL_0]; omega, (by repeat (first | exact Later.refl _ | exact Hid.out (by assumption) | refine Later.set_at ?_ ?_ _ _ | refine Later.alloc ?_ _ | refine Later.drewN ?_ _ | refine Later.drew ?_ | refine Later.trans ?_ (Hid.out (by assumption))))⟩
      case round =>
        obtain ⟨k, hk, rfl, rfl, hd, hlw⟩ := hrel
        have HW := Lib.hid hlw
        clear hlw
        by_cases hlt : k < n
        · obtain ⟨b', off', rfl, hb', hc⟩ := (HS.out.later HW.out).at k hlt
          obtain ⟨c0, c1, c2, c3, c4, c5, c6⟩ := hc
          obtain ⟨_, _, bd1, bd2⟩ := up_bd L k (by rw [HL.out]; exact hk) (okB_le L L.length k (by rw [HL.out]; exact hk) HO.out)
          have hr := (sgB_iff _).1 (okB_at L L.length k (Nat.le_refl _) (by rw [HL.out]; exact hlt) HO.out)
          have r1 := hr.2.1.1; have r2 := hr.2.1.2
          clear hr
          by_cases hin : p - upL L k < (sx L k).l
          · have HP := Lib.hid (pos_in HV.out (k := k) (p := p) ⟨by rw [HL.out]; exact hlt, by omega, by rw [upL_succ L k (by rw [HL.out]; exact hlt)]; omega⟩ h0)
            go_wp2
            go_ret3
            exact ⟨ret_3i (by rw [HP.out.2.1]) (by rw [HP.out.2.2.1]) (by rw [HP.out.1]), (by repeat (first | exact Later.refl _ | exact Hid.out (by assumption) | refine Later.set_at ?_ ?_ _ _ | refine Later.alloc ?_ _ | refine Later.drewN ?_ _ | refine Later.drew ?_ | refine Later.trans ?_ (Hid.out (by assumption))))⟩
          · have hin2 : (sx L k).l ≤ p - upL L k := by omega
            clear hin
            go_wp2
            go_roundw
            case rel => exact ⟨k + 1, by omega, by go_num, by rw [upL_succ L k (by rw [HL.out]; exact hlt)]; go_num, by rw [upL_succ L k (by rw [HL.out]; exact hlt)]; omega, (by repeat (first | exact Later.refl _ | exact Hid.out (by assumption) | refine Later.set_at ?_ ?_ _ _ | refine Later.alloc ?_ _ | refine Later.drewN ?_ _ | refine Later.drew ?_ | refine Later.trans ?_ (Hid.out (by assumption))))⟩
            case measure => simp [intOf]; omega
        · obtain rfl : k = n := by omega
          have HE := Lib.hid (posE_out HV.out (p := p) (.inr (by unfold totL; rw [HL.out]; omega)))
          have HT := Lib.hid (pos_no 2 (by omega) HE.out)
          go_wp2
          go_ret3
          exact ⟨ret_3i (by rw [HT.out.1]) (by rw [HT.out.2.1]) (by rw [HE.out]), (by repeat (first | exact Later.refl _ | exact Hid.out (by assumption) | refine Later.set_at ?_ ?_ _ _ | refine Later.alloc ?_ _ | refine Later.drewN ?_ _ | refine Later.drew ?_ | refine Later.trans ?_ (Hid.out (by assumption))))⟩
theorem i_SegmentAt_in (a : Option Addr) (n cap : Nat) (L : List Sg) (p : Int) (k : Nat) (w : World) (hs : Sgs w a n L) (hp : -9223372036854775808 ≤ p) (hp2 : p ≤ 9223372036854775807) (hv : layB L = true) (h : IsAt L p k) (h0 : 0 ≤ p) :
    Calls Try.prog 27 #[.agg #[.slice a n cap], .int .i64 p] w fun e w' => e = .returned (.tuple #[.int .i64 k, .int .i64 (p - upL L k), .int .i64 0]) ∧ Later w w' := by
  obtain ⟨e1, e2, e3, _⟩ := pos_in hv h h0
  have c := i_SegmentAt a n cap L p w hs hp hp2
  rw [e1, e2, e3] at c
  exact c
theorem mul_rise (x y : Int) (h1 : -100000 ≤ x) (h2 : x ≤ 100000) (h3 : 0 ≤ y) (h4 : y ≤ 200000) : -20000000000 ≤ x * y ∧ x * y ≤ 20000000000 := by
  have a : x * y ≤ 100000 * y := Int.mul_le_mul_of_nonneg_right h2 h3
  have b : -100000 * y ≤ x * y := Int.mul_le_mul_of_nonneg_right h1 h3
  omega
end Go.Proofs.Ytblmbaioflebkaa
