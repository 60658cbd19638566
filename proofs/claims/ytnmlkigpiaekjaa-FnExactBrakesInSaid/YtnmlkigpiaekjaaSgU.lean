/- Contracts of chapter 3: layouts: the model's functions. -/
import Derived.Test.YtnmlkigpiaekjaaSgs
import Derived.Test.YtnmlkigpiaekjaaSg2
import Derived.Test.YtnmlkigpiaekjaaOwn
import Derived.IntWalk
namespace Go.Proofs.Ytnmlkigpiaekjaa
open Go.RowKit
set_option maxHeartbeats 2000000
set_option linter.unusedVariables false
set_option linter.unusedSimpArgs false
set_option maxRecDepth 100000 in
theorem s_IsLayout (a : Option Addr) (n cap : Nat) (L : List Sg) (w : World) (hs : Sgs w a n L) :
    Calls Try.prog 38 #[.agg #[.slice a n cap]] w fun e w' => e = .returned (.bool (layB L)) ∧ Later w w' := by
  have HS := Lib.hid hs
  have HL := Lib.hid hs.1
  have hn := hs.2.1
  clear hs
  by_cases h : 3 ≤ n ∧ n ≤ 24
  · obtain ⟨h1, h2⟩ := h
    go_enter Try.func38, Try.ntmps38
    go_wp2_with fail
    go_loopw [4, 5] (fun hh i wr => ∃ k : Nat, k ≤ n ∧ i = .int .i64 k ∧ hh = .int .i64 (upR L k) ∧ okB L k = true ∧ wr.cell? ⟨w.heap.size, 0, none⟩ = some (.slice a n cap) ∧ w.heap.size < wr.heap.size ∧ Later w wr) (fun _ i _ => n - (intOf i).toNat)
    case atStart => exact ⟨0, by omega, rfl, by rw [upR_0], okB_0 L, by simp, by simp, (Later.refl _).alloc _⟩
    case round =>
      obtain ⟨k, hk, rfl, rfl, hok, cb, hsz, hlw⟩ := hrel
      have HO := Lib.hid hok; have HW := Lib.hid hlw
      clear hok hlw
      obtain ⟨bd1, bd2, _, _⟩ := up_bd L k (by rw [HL.out]; exact hk) HO.out
      by_cases hlt : k < n
      · obtain ⟨b', off', rfl, hb', hc⟩ := (HS.out.later HW.out).at k hlt
        obtain ⟨c0, c1, c2, c3, c4, c5, c6⟩ := hc
        cases hv : sgB (sx L k)
        · have HV := Lib.hid (layB_bad HL.out hlt hv)
          go_wp2_with (go_at_call 72; refine (s_IsSegment (sx L k) _).mono ?_; rintro e w1 ⟨rfl, hb⟩; obtain ⟨H, hcc, hff, hzz⟩ := later_facts hb; clear hb; (try simp at hzz); (try simp only [World.heap_drewN, World.cell?_drewN, World.frozen?_drewN] at hcc hff))
          go_ret
          exact ⟨ret_b (by rw [HV.out]), (by repeat (first | exact Later.refl _ | exact Hid.out (by assumption) | refine Later.set_at ?_ ?_ _ _ | refine Later.alloc ?_ _ | refine Later.drewN ?_ _ | refine Later.drew ?_ | refine Later.trans ?_ (Hid.out (by assumption))))⟩
        · have HV := Lib.hid hv
          have hr := (sgB_iff _).1 hv
          have r1 := hr.2.2.1.1; have r2 := hr.2.2.1.2.1
          clear hr
          go_wp2_with (go_at_call 72; refine (s_IsSegment (sx L k) _).mono ?_; rintro e w1 ⟨rfl, hb⟩; obtain ⟨H, hcc, hff, hzz⟩ := later_facts hb; clear hb; (try simp at hzz); (try simp only [World.heap_drewN, World.cell?_drewN, World.frozen?_drewN] at hcc hff))
          go_roundw
          case rel => exact ⟨k + 1, by omega, by go_num, by rw [upR_succ L k (by rw [HL.out]; exact hlt)], by rw [okB_succ L k (by rw [HL.out]; exact hlt), HO.out, HV.out]; rfl, by rw [hcc _ _ hsz]; exact cb, by omega, (by repeat (first | exact Later.refl _ | exact Hid.out (by assumption) | refine Later.set_at ?_ ?_ _ _ | refine Later.alloc ?_ _ | refine Later.drewN ?_ _ | refine Later.drew ?_ | refine Later.trans ?_ (Hid.out (by assumption))))⟩
          case measure => simp [intOf]; omega
      · obtain rfl : k = n := by omega
        obtain ⟨b', off', rfl, hb', hc⟩ := (HS.out.later HW.out).at (k - 1) (by omega)
        obtain ⟨c0, c1, c2, c3, c4, c5, c6⟩ := hc
        clear bd1 bd2
        by_cases hr0 : upR L k = 0
        · have er : (upR L k == 0) = true := by simpa using hr0
          by_cases h4 : (sx L (k - 1)).k = 4
          · have e4 : ((sx L (k - 1)).k == 4) = true := by simpa using h4
            have HF : Hid (layB L = true) := Lib.hid (by rw [layB_fin HL.out h1 h2 h4 HO.out, hr0]; simp)
            clear hr0 h4
            go_wp2
            go_ret
            exact ⟨ret_b (by rw [HF.out]), (by repeat (first | exact Later.refl _ | exact Hid.out (by assumption) | refine Later.set_at ?_ ?_ _ _ | refine Later.alloc ?_ _ | refine Later.drewN ?_ _ | refine Later.drew ?_ | refine Later.trans ?_ (Hid.out (by assumption))))⟩
          · have e4 : ((sx L (k - 1)).k == 4) = false := by simpa using h4
            have HF : Hid (layB L = false) := Lib.hid (layB_last HL.out h4)
            clear hr0 h4
            go_wp2
            go_ret
            exact ⟨ret_b (by rw [HF.out]), (by repeat (first | exact Later.refl _ | exact Hid.out (by assumption) | refine Later.set_at ?_ ?_ _ _ | refine Later.alloc ?_ _ | refine Later.drewN ?_ _ | refine Later.drew ?_ | refine Later.trans ?_ (Hid.out (by assumption))))⟩
        · have er : (upR L k == 0) = false := by simpa using hr0
          have HF : Hid (layB L = false) := Lib.hid (by rw [layB_no]; rintro ⟨_, _, _, e, _⟩; rw [HL.out] at e; exact hr0 e)
          clear hr0
          go_wp2
          go_ret
          exact ⟨ret_b (by rw [HF.out]), (by repeat (first | exact Later.refl _ | exact Hid.out (by assumption) | refine Later.set_at ?_ ?_ _ _ | refine Later.alloc ?_ _ | refine Later.drewN ?_ _ | refine Later.drew ?_ | refine Later.trans ?_ (Hid.out (by assumption))))⟩
  · have HF := Lib.hid (layB_len HL.out h)
    have hn : n < 3 ∨ 24 < n := by omega
    clear h
    rcases hn with hn | hn
    all_goals
      go_enter Try.func38, Try.ntmps38
      go_wp2_with fail
      go_ret
      exact ⟨ret_b (by rw [HF.out]), (by repeat (first | exact Later.refl _ | exact Hid.out (by assumption) | refine Later.set_at ?_ ?_ _ _ | refine Later.alloc ?_ _ | refine Later.drewN ?_ _ | refine Later.drew ?_ | refine Later.trans ?_ (Hid.out (by assumption))))⟩
end Go.Proofs.Ytnmlkigpiaekjaa
