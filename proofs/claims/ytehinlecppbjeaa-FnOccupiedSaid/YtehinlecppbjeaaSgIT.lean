/- The length of a track, of the program. -/
import Derived.Test.YtehinlecppbjeaaSgI
namespace Go.Proofs.Ytehinlecppbjeaa
open Go.RowKit
set_option maxHeartbeats 2000000
set_option linter.unusedVariables false
set_option linter.unusedSimpArgs false
theorem i_TrackLength (a : Option Addr) (n cap : Nat) (L : List Sg) (w : World) (hs : Sgs w a n L) :
    Calls Try.prog 32 #[.agg #[.slice a n cap]] w fun e w' => e = .returned (.tuple #[.int .i64 (tlV L), .int .i64 (tlE L)]) ∧ Later w w' := by
  have HS := Lib.hid hs
  have HL := Lib.hid hs.1
  have hn := hs.2.1
  clear hs
  cases hv : layB L
  · have HT : Hid (tlV L = 0 ∧ tlE L = 1) := Lib.hid (by unfold tlV tlE; rw [hv]; simp)
    go_enter Try.func32, Try.ntmps32
    go_wp2_with (go_at_call 86; refine (i_IsLayout a n cap L _ (HS.out.later ((Later.refl _).alloc _))).mono ?_; rw [hv]; rintro e w1 ⟨rfl, hb⟩; obtain ⟨H, hcc, hff, hzz⟩ := later_facts hb; clear hb; (try simp at hzz); (try simp only [World.heap_drewN, World.cell?_drewN, World.frozen?_drewN] at hcc hff))
    go_ret2
    exact ⟨ret_2i (by rw [HT.out.1]) (by rw [HT.out.2]), (by repeat (first | exact Later.refl _ | exact Hid.out (by assumption) | refine Later.set_at ?_ ?_ _ _ | refine Later.alloc ?_ _ | refine Later.drewN ?_ _ | refine Later.drew ?_ | refine Later.trans ?_ (Hid.out (by assumption))))⟩
  · have HT : Hid (tlV L = upL L n ∧ tlE L = 0) := Lib.hid (by unfold tlV tlE totL; rw [hv, HL.out]; simp)
    have HO := Lib.hid ((layB_iff L).1 hv).2.2.1
    have h24 := ((layB_iff L).1 hv).2.1
    rw [HL.out] at h24
    go_enter Try.func32, Try.ntmps32
    go_wp2_with (go_at_call 86; refine (i_IsLayout a n cap L _ (HS.out.later ((Later.refl _).alloc _))).mono ?_; rw [hv]; rintro e w1 ⟨rfl, hb⟩; obtain ⟨H, hcc, hff, hzz⟩ := later_facts hb; clear hb; (try simp at hzz); (try simp only [World.heap_drewN, World.cell?_drewN, World.frozen?_drewN] at hcc hff))
    clear hv
    go_loopw [4, 13] (fun hh i wr => ∃ k : Nat, k ≤ n ∧ i = .int .i64 k ∧ hh = .int .i64 (upL L k) ∧ Later w wr) (fun _ i _ => n - (intOf i).toNat)
    case atStart => exact ⟨0, by omega, rfl, by rw [upL_0], (by repeat (first | exact Later.refl _ | exact Hid.out (by assumption) | refine Later.set_at ?_ ?_ _ _ | refine Later.alloc ?_ _ | refine Later.drewN ?_ _ | refine Later.drew ?_ | refine Later.trans ?_ (Hid.out (by assumption))))⟩
    case round =>
      obtain ⟨k, hk, rfl, rfl, hlw⟩ := hrel
      have HW := Lib.hid hlw; have HZ := Lib.hid hlw.size
      clear hlw
      obtain ⟨_, _, bd1, bd2⟩ := up_bd L k (by rw [HL.out]; exact hk) (okB_le L L.length k (by rw [HL.out]; exact hk) HO.out)
      by_cases hlt : k < n
      · obtain ⟨b', off', rfl, hb', hc⟩ := (HS.out.later HW.out).at k hlt
        obtain ⟨c0, c1, c2, c3, c4, c5, c6⟩ := hc
        have hr := (sgB_iff _).1 (okB_at L L.length k (Nat.le_refl _) (by rw [HL.out]; exact hlt) HO.out)
        have r1 := hr.2.1.1; have r2 := hr.2.1.2
        clear hr
        clear hcc hff hzz
        go_wp2
        go_roundw
        case rel => exact ⟨k + 1, by omega, by go_num, by rw [upL_succ L k (by rw [HL.out]; exact hlt)], (by repeat (first | exact Later.refl _ | exact Hid.out (by assumption) | refine Later.set_at ?_ ?_ _ _ | refine Later.alloc ?_ _ | refine Later.drewN ?_ _ | refine Later.drew ?_ | refine Later.trans ?_ (Hid.out (by assumption))))⟩
        case measure => simp [intOf]; omega
      · obtain rfl : k = n := by omega
        clear bd1 bd2 hcc hff hzz
        go_wp2
        go_ret2
        exact ⟨ret_2i (by rw [HT.out.1]) (by rw [HT.out.2]), (by repeat (first | exact Later.refl _ | exact Hid.out (by assumption) | refine Later.set_at ?_ ?_ _ _ | refine Later.alloc ?_ _ | refine Later.drewN ?_ _ | refine Later.drew ?_ | refine Later.trans ?_ (Hid.out (by assumption))))⟩
end Go.Proofs.Ytehinlecppbjeaa
