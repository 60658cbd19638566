/- Contracts of chapter 3: segments that are valid, segments that hold: the program's functions. | Contracts of chapter 3: layouts: the program's functions. | The text of a layout, of the program. | A layout's text read, by the program: ReadLayout. | Contracts of chapter 3: layouts: the model's functions. | A layout's text read, by the model: ReadLayout. | Reading a layout's text, by the program: it tells the layout, or that there is none. | The text of a segment, of the model: its five kinds (gen_txn.py). | The text of a layout, of the model. | Drawn texts, sometimes damaged: whatever comes out is short. | Slices that came in, as the shell of a proof says them. | A layout drawn, and its text, sometimes damaged. | Two layouts that are alike. | The walk of the law on texts of layouts. -/
import Derived.Test.YtkhhoajoionlfaaGreatDoorSg0
import Derived.Test.YtkhhoajoionlfaaGreatDoorSgs
import Derived.Test.YtkhhoajoionlfaaGreatDoorTxI
import Derived.Test.YtkhhoajoionlfaaGreatDoorBld
import Derived.Test.YtkhhoajoionlfaaGreatDoorRdG
import Derived.Test.YtkhhoajoionlfaaGreatDoorOwnS
import Derived.Test.YtkhhoajoionlfaaGreatDoorSg2
import Derived.Test.YtkhhoajoionlfaaGreatDoorOwn
import Derived.IntWalk
import Derived.Test.YtkhhoajoionlfaaGreatDoorTxN
import Derived.Test.YtkhhoajoionlfaaGreatDoorTx0
import Derived.Test.YtkhhoajoionlfaaGreatDoorFrom
import Derived.BigRegion
import Derived.Test.YtkhhoajoionlfaaGreatDoorSgB
namespace Go.Proofs.YtkhhoajoionlfaaGreatDoor
open Go.RowKit
set_option maxHeartbeats 2000000
set_option linter.unusedVariables false
set_option linter.unusedSimpArgs false
/-! what a type assertion on a kind gives -/
theorem as0_1 (W : World) : (Instr.typeAssert (.iface 92 (.agg #[])) 66 93 true).run Tryz.prog W = .ok (.tuple #[.agg #[], .bool false]) W := by kernel_rfl
theorem as1_1 (W : World) : (Instr.typeAssert (.iface 93 (.agg #[])) 66 93 true).run Tryz.prog W = .ok (.tuple #[.agg #[], .bool true]) W := by kernel_rfl
theorem as2_1 (W : World) : (Instr.typeAssert (.iface 94 (.agg #[])) 66 93 true).run Tryz.prog W = .ok (.tuple #[.agg #[], .bool false]) W := by kernel_rfl
theorem as3_1 (W : World) : (Instr.typeAssert (.iface 95 (.agg #[])) 66 93 true).run Tryz.prog W = .ok (.tuple #[.agg #[], .bool false]) W := by kernel_rfl
theorem as4_1 (W : World) : (Instr.typeAssert (.iface 96 (.agg #[])) 66 93 true).run Tryz.prog W = .ok (.tuple #[.agg #[], .bool false]) W := by kernel_rfl
theorem as0_3 (W : World) : (Instr.typeAssert (.iface 92 (.agg #[])) 66 95 true).run Tryz.prog W = .ok (.tuple #[.agg #[], .bool false]) W := by kernel_rfl
theorem as1_3 (W : World) : (Instr.typeAssert (.iface 93 (.agg #[])) 66 95 true).run Tryz.prog W = .ok (.tuple #[.agg #[], .bool false]) W := by kernel_rfl
theorem as2_3 (W : World) : (Instr.typeAssert (.iface 94 (.agg #[])) 66 95 true).run Tryz.prog W = .ok (.tuple #[.agg #[], .bool false]) W := by kernel_rfl
theorem as3_3 (W : World) : (Instr.typeAssert (.iface 95 (.agg #[])) 66 95 true).run Tryz.prog W = .ok (.tuple #[.agg #[], .bool true]) W := by kernel_rfl
theorem as4_3 (W : World) : (Instr.typeAssert (.iface 96 (.agg #[])) 66 95 true).run Tryz.prog W = .ok (.tuple #[.agg #[], .bool false]) W := by kernel_rfl
theorem as0_4 (W : World) : (Instr.typeAssert (.iface 92 (.agg #[])) 66 96 true).run Tryz.prog W = .ok (.tuple #[.agg #[], .bool false]) W := by kernel_rfl
theorem as1_4 (W : World) : (Instr.typeAssert (.iface 93 (.agg #[])) 66 96 true).run Tryz.prog W = .ok (.tuple #[.agg #[], .bool false]) W := by kernel_rfl
theorem as2_4 (W : World) : (Instr.typeAssert (.iface 94 (.agg #[])) 66 96 true).run Tryz.prog W = .ok (.tuple #[.agg #[], .bool false]) W := by kernel_rfl
theorem as3_4 (W : World) : (Instr.typeAssert (.iface 95 (.agg #[])) 66 96 true).run Tryz.prog W = .ok (.tuple #[.agg #[], .bool false]) W := by kernel_rfl
theorem as4_4 (W : World) : (Instr.typeAssert (.iface 96 (.agg #[])) 66 96 true).run Tryz.prog W = .ok (.tuple #[.agg #[], .bool true]) W := by kernel_rfl
theorem i_IsSegment (x : Sg) (w : World) : Calls Tryz.prog 27 #[.agg #[.int .i64 x.k, .int .i64 x.l, .int .i64 x.r, .int .i64 x.a, .int .i64 x.b, .int .i64 x.c, .int .i64 x.d]] w fun e w' => e = .returned (.bool (sgB x)) ∧ Later w w' := by
  by_cases hk : kndB x.k = true
  · have hK := Lib.hid hk
    have S0 : Hid (sgB x = (lenB x.l && slpB x.r x.l && rngB 0 x.a x.b && frcB x.k x.c x.d)) := Lib.hid (by unfold sgB; rw [hk]; simp)
    clear hk
    by_cases h1 : 1 ≤ x.l
    · by_cases h2 : x.l ≤ 200000
      · have e1 : Hid (lenB x.l = true) := Lib.hid (by unfold lenB; simp; omega)
        cases h3 : slpB x.r x.l
        · go_enter Tryz.func27, Tryz.ntmps27
          go_wp2_with (first
      | (go_at_call 34; refine (i_kindOf _ hK.out _).mono ?_; rintro e w' ⟨rfl, rfl⟩)
      | (go_at_call 43; refine (i_isSlope _ _ _).mono ?_; rintro e w' ⟨rfl, rfl⟩)
      | (go_at_call 44; refine (i_Within _ _ _ (by omega) (by omega) _).mono ?_; rintro e w1 ⟨rfl, hb⟩; obtain ⟨H, hcc, hff, hzz⟩ := later_facts hb; clear hb; (try simp at hzz); have hz0 : w.heap.size < w1.heap.size := (by omega))
      | (go_at_call 45; refine (i_suits _ _ _ hK.out _).mono ?_; rintro e w1 ⟨rfl, hb⟩; obtain ⟨H, hcc, hff, hzz⟩ := later_facts hb; clear hb; (try simp at hzz); have hz0 : w.heap.size < w1.heap.size := (by omega)))
          go_ret
          exact ⟨ret_b (by rw [S0.out, e1.out, h3]; simp), (by repeat (first | exact Later.refl _ | refine Later.alloc ?_ _ | refine Later.drewN ?_ _ | refine Later.drew ?_ | refine Later.trans ?_ (Hid.out (by assumption))))⟩
        · cases h4 : rngB 0 x.a x.b
          · go_enter Tryz.func27, Tryz.ntmps27
            go_wp2_with (first
      | (go_at_call 34; refine (i_kindOf _ hK.out _).mono ?_; rintro e w' ⟨rfl, rfl⟩)
      | (go_at_call 43; refine (i_isSlope _ _ _).mono ?_; rintro e w' ⟨rfl, rfl⟩)
      | (go_at_call 44; refine (i_Within _ _ _ (by omega) (by omega) _).mono ?_; rintro e w1 ⟨rfl, hb⟩; obtain ⟨H, hcc, hff, hzz⟩ := later_facts hb; clear hb; (try simp at hzz); have hz0 : w.heap.size < w1.heap.size := (by omega))
      | (go_at_call 45; refine (i_suits _ _ _ hK.out _).mono ?_; rintro e w1 ⟨rfl, hb⟩; obtain ⟨H, hcc, hff, hzz⟩ := later_facts hb; clear hb; (try simp at hzz); have hz0 : w.heap.size < w1.heap.size := (by omega)))
            go_ret
            exact ⟨ret_b (by rw [S0.out, e1.out, h3, h4]; simp), (by repeat (first | exact Later.refl _ | refine Later.alloc ?_ _ | refine Later.drewN ?_ _ | refine Later.drew ?_ | refine Later.trans ?_ (Hid.out (by assumption))))⟩
          · go_enter Tryz.func27, Tryz.ntmps27
            go_wp2_with (first
      | (go_at_call 34; refine (i_kindOf _ hK.out _).mono ?_; rintro e w' ⟨rfl, rfl⟩)
      | (go_at_call 43; refine (i_isSlope _ _ _).mono ?_; rintro e w' ⟨rfl, rfl⟩)
      | (go_at_call 44; refine (i_Within _ _ _ (by omega) (by omega) _).mono ?_; rintro e w1 ⟨rfl, hb⟩; obtain ⟨H, hcc, hff, hzz⟩ := later_facts hb; clear hb; (try simp at hzz); have hz0 : w.heap.size < w1.heap.size := (by omega))
      | (go_at_call 45; refine (i_suits _ _ _ hK.out _).mono ?_; rintro e w1 ⟨rfl, hb⟩; obtain ⟨H, hcc, hff, hzz⟩ := later_facts hb; clear hb; (try simp at hzz); have hz0 : w.heap.size < w1.heap.size := (by omega)))
            go_ret
            exact ⟨ret_b (by rw [S0.out, e1.out, h3, h4]; simp), (by repeat (first | exact Later.refl _ | refine Later.alloc ?_ _ | refine Later.drewN ?_ _ | refine Later.drew ?_ | refine Later.trans ?_ (Hid.out (by assumption))))⟩
      · go_enter Tryz.func27, Tryz.ntmps27
        go_wp2_with (first
      | (go_at_call 34; refine (i_kindOf _ hK.out _).mono ?_; rintro e w' ⟨rfl, rfl⟩)
      | (go_at_call 43; refine (i_isSlope _ _ _).mono ?_; rintro e w' ⟨rfl, rfl⟩)
      | (go_at_call 44; refine (i_Within _ _ _ (by omega) (by omega) _).mono ?_; rintro e w1 ⟨rfl, hb⟩; obtain ⟨H, hcc, hff, hzz⟩ := later_facts hb; clear hb; (try simp at hzz); have hz0 : w.heap.size < w1.heap.size := (by omega))
      | (go_at_call 45; refine (i_suits _ _ _ hK.out _).mono ?_; rintro e w1 ⟨rfl, hb⟩; obtain ⟨H, hcc, hff, hzz⟩ := later_facts hb; clear hb; (try simp at hzz); have hz0 : w.heap.size < w1.heap.size := (by omega)))
        go_ret
        exact ⟨ret_b (by rw [S0.out]; unfold lenB; simp [h2]; intros; omega), (by repeat (first | exact Later.refl _ | refine Later.alloc ?_ _ | refine Later.drewN ?_ _ | refine Later.drew ?_ | refine Later.trans ?_ (Hid.out (by assumption))))⟩
    · go_enter Tryz.func27, Tryz.ntmps27
      go_wp2_with (first
      | (go_at_call 34; refine (i_kindOf _ hK.out _).mono ?_; rintro e w' ⟨rfl, rfl⟩)
      | (go_at_call 43; refine (i_isSlope _ _ _).mono ?_; rintro e w' ⟨rfl, rfl⟩)
      | (go_at_call 44; refine (i_Within _ _ _ (by omega) (by omega) _).mono ?_; rintro e w1 ⟨rfl, hb⟩; obtain ⟨H, hcc, hff, hzz⟩ := later_facts hb; clear hb; (try simp at hzz); have hz0 : w.heap.size < w1.heap.size := (by omega))
      | (go_at_call 45; refine (i_suits _ _ _ hK.out _).mono ?_; rintro e w1 ⟨rfl, hb⟩; obtain ⟨H, hcc, hff, hzz⟩ := later_facts hb; clear hb; (try simp at hzz); have hz0 : w.heap.size < w1.heap.size := (by omega)))
      go_ret
      exact ⟨ret_b (by rw [S0.out]; unfold lenB; simp [h1]; intros; omega), (by repeat (first | exact Later.refl _ | refine Later.alloc ?_ _ | refine Later.drewN ?_ _ | refine Later.drew ?_ | refine Later.trans ?_ (Hid.out (by assumption))))⟩
  · have hk : kndB x.k = false := by simpa using hk
    have hK := Lib.hid hk
    clear hk
    go_enter Tryz.func27, Tryz.ntmps27
    go_wp2_with (go_at_call 34; refine (i_kindOf_no _ hK.out _).mono ?_; rintro e w' ⟨rfl, rfl⟩)
    go_ret
    exact ⟨ret_b (by unfold sgB; rw [hK.out]; simp), (by repeat (first | exact Later.refl _ | refine Later.alloc ?_ _ | refine Later.drewN ?_ _ | refine Later.drew ?_ | refine Later.trans ?_ (Hid.out (by assumption))))⟩
end Go.Proofs.YtkhhoajoionlfaaGreatDoor
namespace Go.Proofs.YtkhhoajoionlfaaGreatDoor
open Go.RowKit
set_option maxHeartbeats 2000000
set_option linter.unusedVariables false
set_option linter.unusedSimpArgs false
theorem i_IsLayout (a : Option Addr) (n cap : Nat) (L : List Sg) (w : World) (hs : Sgs w a n L) :
    Calls Tryz.prog 11 #[.agg #[.slice a n cap]] w fun e w' => e = .returned (.bool (layB L)) ∧ Later w w' := by
  have HS := Lib.hid hs
  have HL := Lib.hid hs.1
  clear hs
  by_cases h : 3 ≤ n ∧ n ≤ 24
  · obtain ⟨h1, h2⟩ := h
    obtain ⟨b, off, rfl, hb, hc⟩ := HS.out.at (n - 1) (by omega)
    obtain ⟨c0, c1, c2, c3, c4, c5, c6⟩ := hc
    clear c1 c2 c3 c4 c5 c6
    by_cases hk : (sx L (n - 1)).k = 4
    · have e4 : ((sx L (n - 1)).k != 4) = false := by simp [hk]
      have HK := Lib.hid hk
      clear hk
      go_enter Tryz.func11, Tryz.ntmps11
      go_wp2_with fail
      clear c0 e4 hb
      go_loopw [4, 29] (fun hh i wr => ∃ k : Nat, k ≤ n ∧ i = .int .i64 k ∧ hh = .int .i64 (upR L k) ∧ okB L k = true ∧ Later w wr) (fun _ i _ => n - (intOf i).toNat)
      case atStart => exact ⟨0, by omega, rfl, by rw [upR_0], okB_0 L, (Later.refl _).alloc _⟩
      case round =>
        obtain ⟨k, hk, rfl, rfl, hok, hlw⟩ := hrel
        have HO := Lib.hid hok; have HW := Lib.hid hlw; have HZ := Lib.hid hlw.size
        clear hok hlw
        obtain ⟨bd1, bd2, _, _⟩ := up_bd L k (by rw [HL.out]; exact hk) HO.out
        by_cases hlt : k < n
        · obtain ⟨b', off', hbb, hb', hc⟩ := (HS.out.later HW.out).at k hlt
          simp only [Option.some.injEq, Addr.mk.injEq, and_true] at hbb
          obtain ⟨rfl, rfl⟩ := hbb
          obtain ⟨c0, c1, c2, c3, c4, c5, c6⟩ := hc
          cases hv : sgB (sx L k)
          · have HV := Lib.hid (layB_bad HL.out hlt hv)
            go_wp2_with (go_at_call 27; refine (i_IsSegment (sx L k) _).mono ?_; rintro e w1 ⟨rfl, hb⟩; obtain ⟨H, hcc, hff, hzz⟩ := later_facts hb; clear hb; (try simp at hzz); (try simp only [World.heap_drewN, World.cell?_drewN, World.frozen?_drewN] at hcc hff))
            go_ret
            exact ⟨ret_b (by rw [HV.out]), (by repeat (first | exact Later.refl _ | exact Hid.out (by assumption) | refine Later.set_at ?_ ?_ _ _ | refine Later.alloc ?_ _ | refine Later.drewN ?_ _ | refine Later.drew ?_ | refine Later.trans ?_ (Hid.out (by assumption))))⟩
          · have HV := Lib.hid hv
            have hr := (sgB_iff _).1 hv
            have r1 := hr.2.2.1.1; have r2 := hr.2.2.1.2.1
            clear hr
            go_wp2_with (go_at_call 27; refine (i_IsSegment (sx L k) _).mono ?_; rintro e w1 ⟨rfl, hb⟩; obtain ⟨H, hcc, hff, hzz⟩ := later_facts hb; clear hb; (try simp at hzz); (try simp only [World.heap_drewN, World.cell?_drewN, World.frozen?_drewN] at hcc hff))
            go_roundw
            case rel => exact ⟨k + 1, by omega, by go_num, by rw [upR_succ L k (by rw [HL.out]; exact hlt)], by rw [okB_succ L k (by rw [HL.out]; exact hlt), HO.out, HV.out]; rfl, (by repeat (first | exact Later.refl _ | exact Hid.out (by assumption) | refine Later.set_at ?_ ?_ _ _ | refine Later.alloc ?_ _ | refine Later.drewN ?_ _ | refine Later.drew ?_ | refine Later.trans ?_ (Hid.out (by assumption))))⟩
            case measure => simp [intOf]; omega
        · obtain rfl : k = n := by omega
          have HF := Lib.hid (layB_fin HL.out h1 h2 HK.out HO.out)
          clear bd1 bd2
          go_wp2
          go_ret
          exact ⟨ret_b (by rw [HF.out]; first | rfl | (simp; done)), (by repeat (first | exact Later.refl _ | exact Hid.out (by assumption) | refine Later.set_at ?_ ?_ _ _ | refine Later.alloc ?_ _ | refine Later.drewN ?_ _ | refine Later.drew ?_ | refine Later.trans ?_ (Hid.out (by assumption))))⟩
    · have e4 : ((sx L (n - 1)).k != 4) = true := by simpa using hk
      have HF := Lib.hid (layB_last HL.out hk)
      clear hk
      go_enter Tryz.func11, Tryz.ntmps11
      go_wp2_with fail
      go_ret
      exact ⟨ret_b (by rw [HF.out]), (by repeat (first | exact Later.refl _ | exact Hid.out (by assumption) | refine Later.set_at ?_ ?_ _ _ | refine Later.alloc ?_ _ | refine Later.drewN ?_ _ | refine Later.drew ?_ | refine Later.trans ?_ (Hid.out (by assumption))))⟩
  · have HF := Lib.hid (layB_len HL.out h)
    have hn : n < 3 ∨ 24 < n := by omega
    clear h
    rcases hn with hn | hn
    all_goals
      go_enter Tryz.func11, Tryz.ntmps11
      go_wp2_with fail
      go_ret
      exact ⟨ret_b (by rw [HF.out]), (by repeat (first | exact Later.refl _ | exact Hid.out (by assumption) | refine Later.set_at ?_ ?_ _ _ | refine Later.alloc ?_ _ | refine Later.drewN ?_ _ | refine Later.drew ?_ | refine Later.trans ?_ (Hid.out (by assumption))))⟩
end Go.Proofs.YtkhhoajoionlfaaGreatDoor
namespace Go.Proofs.YtkhhoajoionlfaaGreatDoor
open Go.RowKit Go.Shelf
set_option maxHeartbeats 4000000
set_option linter.unusedVariables false
set_option linter.unusedSimpArgs false
theorem i_LayoutText (a : Option Addr) (n cap : Nat) (L : List Sg) (w : World) (hs : Sgs w a n L) (ht : Tab w) :
    Calls Tryz.prog 6 #[.agg #[.slice a n cap]] w (Texts w (layTx L)) := by
  have HS := Lib.hid hs
  have HL := Lib.hid hs.1
  have HT := Lib.hid ht
  have hn := hs.2.1
  have HI := Lib.hid hs.2.2.2
  clear hs ht
  cases hv : layB L
  · have HT : Hid (layTx L = []) := Lib.hid (by unfold layTx; rw [hv]; simp)
    go_enter Tryz.func6, Tryz.ntmps6
    go_wp2_with (go_at_call 11; refine (i_IsLayout a n cap L _ (HS.out.later ((Later.refl _).alloc _))).mono ?_; rw [hv]; rintro e w1 ⟨rfl, hb⟩; obtain ⟨H, hcc, hff, hzz⟩ := later_facts hb; clear hb; (try simp at hzz); have hz0 : w.heap.size < w1.heap.size := (by omega); (try simp only [World.heap_drewN, World.cell?_drewN, World.frozen?_drewN] at hcc hff))
    go_ret
    exact ⟨by rw [HT.out]; rfl, Later.trans ((Later.refl _).alloc _) H.out⟩
  · have HO := Lib.hid ((layB_iff L).1 hv).2.2.1
    have HX : Hid (layTx L = linTx L) := Lib.hid (by unfold layTx; rw [hv]; simp)
    have h24 := ((layB_iff L).1 hv).2.1
    rw [HL.out] at h24
    go_enter Tryz.func6, Tryz.ntmps6
    go_wp2_with (go_at_call 11; refine (i_IsLayout a n cap L _ (HS.out.later ((Later.refl _).alloc _))).mono ?_; rw [hv]; rintro e w1 ⟨rfl, hb⟩; obtain ⟨H, hcc, hff, hzz⟩ := later_facts hb; clear hb; (try simp at hzz); have hz0 : w.heap.size < w1.heap.size := (by omega); (try simp only [World.heap_drewN, World.cell?_drewN, World.frozen?_drewN] at hcc hff))
    clear hv
    have B1 := Lib.hid (Later.trans ((Later.refl w).alloc _) H.out)
    have N1 := Lib.hid (bld_new w1)
    have hbz : Hid (w.heap.size ≤ w1.heap.size) := Lib.hid B1.out.size
    clear hcc hff hzz
    go_loopw [12] (fun i wr => ∃ k : Nat, k ≤ n ∧ i = .int .i64 k ∧ Bld wr w1.heap.size (linTx (L.take k)) ∧ Later w wr) (fun i _ => n - (intOf i).toNat)
    case atStart => exact ⟨0, by omega, rfl, N1.out, B1.out.alloc _⟩
    case round =>
      obtain ⟨k, hk, rfl, hbl, hlw⟩ := hrel
      have HB := Lib.hid hbl; have HW := Lib.hid hlw; have HZ := Lib.hid hlw.size
      have T3 := Lib.hid (HT.out.later hlw)
      clear hbl hlw
      by_cases hlt : k < n
      · obtain ⟨b', off', rfl, hb', hc⟩ := (HS.out.later HW.out).at k hlt
        obtain ⟨c0, c1, c2, c3, c4, c5, c6⟩ := hc
        have hr := (sgB_iff _).1 (okB_at L L.length k (Nat.le_refl _) (by rw [HL.out]; exact hlt) HO.out)
        have hkn : Hid (kndB (sx L k).k = true) := Lib.hid (by unfold kndB; simp; omega)
        have hin : Hid ((sx L k).In) := Lib.hid (HS.out.in k hlt)
        have hls : Hid ((segTx (sx L k)).length ≤ 200) := Lib.hid (segTx_len _ hin.out)
        have hln : Hid ((linTx (L.take k)).length ≤ 4824) := Lib.hid (by
          have h1 := linTx_len (L.take k) (fun x hx => HI.out x (List.mem_of_mem_take hx))
          have h2 : (L.take k).length ≤ 24 := by rw [List.length_take]; omega
          omega)
        clear hr
        go_wp2_with fail
        refine (i_segmentText (sx L k) hin.out hkn.out _ (T3.out.later (by repeat (first | (with_reducible exact Later.refl _) | (with_reducible exact Hid.out (by assumption)) | refine Later.set_at ?_ ?_ _ _ | refine Later.alloc ?_ _ | refine Later.drewN ?_ _ | refine Later.drew ?_ | refine Later.trans ?_ (Hid.out (by assumption)))))).mono ?_
        rintro e w4 ⟨rfl, hb4⟩
        have N4 := Lib.hid (HB.out.later (Later.trans (by repeat (first | (with_reducible exact Later.refl _) | (with_reducible exact Hid.out (by assumption)) | refine Later.set_at ?_ ?_ _ _ | refine Later.alloc ?_ _ | refine Later.drewN ?_ _ | refine Later.drew ?_ | refine Later.trans ?_ (Hid.out (by assumption)))) hb4))
        have B4 := Lib.hid (Later.trans HW.out (Later.trans (by repeat (first | (with_reducible exact Later.refl _) | (with_reducible exact Hid.out (by assumption)) | refine Later.set_at ?_ ?_ _ _ | refine Later.alloc ?_ _ | refine Later.drewN ?_ _ | refine Later.drew ?_ | refine Later.trans ?_ (Hid.out (by assumption)))) hb4))
        clear hb4 c0 c1 c2 c3 c4 c5 c6
        go_wp2_with fail
        refine (b_WriteString _ _ _ _ N4.out (by have := hls.out; have := hln.out; omega)).mono ?_
        rintro e w5 ⟨rfl, hN, hb5⟩
        have N5 := Lib.hid hN
        have B5 : Hid (Later w w5) := Lib.hid (Below.trans B4.out (hb5.mono hbz.out))
        clear hN hb5
        go_wp2_with fail
        refine (b_WriteNL _ _ _ N5.out (by have := hls.out; have := hln.out; rw [List.length_append]; omega)).mono ?_
        rintro e w6 ⟨rfl, hN, hb6⟩
        have N6 := Lib.hid hN
        have B6 : Hid (Later w w6) := Lib.hid (Below.trans B5.out (hb6.mono hbz.out))
        clear hN hb6
        go_wp2_with fail
        go_roundw
        case rel => exact ⟨k + 1, by omega, by go_num, by rw [linTx_succ L k (by rw [HL.out]; exact hlt), ← List.append_assoc]; exact N6.out, B6.out⟩
        case measure => simp [intOf]; omega
      · obtain rfl : k = n := by omega
        have hT : Hid (linTx (L.take k) = layTx L) := Lib.hid (by rw [HX.out, List.take_of_length_le (by rw [HL.out]; omega)])
        go_wp2_with fail
        refine (b_String _ _ _ HB.out).mono ?_
        rintro e w4 ⟨rfl, hb4⟩
        have B4 : Hid (Later w w4) := Lib.hid (Below.trans HW.out (hb4.mono hbz.out))
        clear hb4
        go_wp2_with fail
        go_ret
        exact ⟨congrArg (fun s => Ending.returned (.string (tx s))) hT.out, B4.out⟩
end Go.Proofs.YtkhhoajoionlfaaGreatDoor
namespace Go.Proofs.YtkhhoajoionlfaaGreatDoor
open Go.RowKit Go.Shelf
set_option maxHeartbeats 4000000
set_option linter.unusedVariables false
set_option linter.unusedSimpArgs false
/-- 'what the text l is read as' -/
def ReadsR (w : World) (l : List UInt8) (e : Ending) (w' : World) : Prop :=
  Later w w' ∧ ((∃ L v, layB L = true ∧ l = linTx L ∧ e = .returned (.tuple #[.agg #[v], .bool true]) ∧ OwnS w' w.heap.size v L) ∨ ((∀ L, layB L = true → l ≠ linTx L) ∧ e = .returned (.tuple #[.agg #[.slice none 0 0], .bool false])))
/-- 'the pieces of l, where it is a layout's text, are its lines' -/
def LnOf (l : List UInt8) (W : List (List UInt8)) : Prop := ∀ M, layB M = true → l = linTx M → W = M.map segTx ++ [[]]
/-- 'the first k lines are read as L' -/
def RdTo (l : List UInt8) (k : Nat) (L : List Sg) : Prop := L.length = k ∧ ∀ M, layB M = true → l = linTx M → L = M.take k
theorem rdTo_nil (l : List UInt8) : RdTo l 0 [] := ⟨rfl, fun M _ _ => by simp⟩
theorem ln_at {l : List UInt8} {W : List (List UInt8)} (h : LnOf l W) {k : Nat} (hk : k + 1 < W.length) {M : List Sg} (hM : layB M = true) (hl : l = linTx M) : k < M.length ∧ W.getD k [] = segTx (sx M k) ∧ sgB (sx M k) = true := by
  have hW := h M hM hl
  have hkM : k < M.length := by rw [hW] at hk; simp at hk; exact hk
  refine ⟨hkM, ?_, okB_at M M.length k (Nat.le_refl _) hkM ((layB_iff M).1 hM).2.2.1⟩
  rw [hW, List.getD_eq_getElem?_getD, List.getElem?_append_left (by simpa using hkM), sx_of M k hkM]
  simp [hkM]
theorem rdTo_snoc {l : List UInt8} {W : List (List UInt8)} {k : Nat} {L : List Sg} {y : Sg} {b : Bool} (h : LnOf l W) (hr : RdTo l k L) (hk : k + 1 < W.length) (hy : RSg (W.getD k []) y b) : RdTo l (k + 1) (L ++ [y]) := by
  refine ⟨by rw [List.length_append, hr.1]; rfl, fun M hM hl => ?_⟩
  obtain ⟨h1, h2, h3⟩ := ln_at h hk hM hl
  rw [hr.2 M hM hl, (hy.2 _ h3 h2).1, List.take_succ_eq_append_getElem h1, sx_of M k h1]
theorem rd_bad {l : List UInt8} {W : List (List UInt8)} {k : Nat} {y : Sg} (h : LnOf l W) (hk : k + 1 < W.length) (hy : RSg (W.getD k []) y false) : ∀ L, layB L = true → l ≠ linTx L := by
  intro M hM hl
  obtain ⟨h1, h2, h3⟩ := ln_at h hk hM hl
  exact absurd (hy.2 _ h3 h2).2 (by decide)
theorem rd_end {l : List UInt8} {W : List (List UInt8)} {k : Nat} {L : List Sg} (h : LnOf l W) (hr : RdTo l k L) (hk : W.length = k + 1) : ∀ M, layB M = true → l = linTx M → L = M := by
  intro M hM hl
  have hW := congrArg List.length (h M hM hl)
  rw [hk] at hW
  simp at hW
  rw [hr.2 M hM hl, hW, List.take_length]
theorem rd_no {l : List UInt8} {L : List Sg} (h : ∀ M, layB M = true → l = linTx M → L = M) (hL : layB L = false) : ∀ M, layB M = true → l ≠ linTx M := by
  intro M hM hl
  have := h M hM hl
  rw [this, hM] at hL
  cases hL
theorem rd_ne {l : List UInt8} {L : List Sg} (h : ∀ M, layB M = true → l = linTx M → L = M) (hL : layTx L ≠ l) : ∀ M, layB M = true → l ≠ linTx M := by
  intro M hM hl
  have := h M hM hl
  refine hL ?_
  rw [this, hl]
  unfold layTx
  rw [if_pos hM]
/-- the two variables of type Layout: the result's, still nothing, and the one that is built -/
def TwoV (w W : World) (v : Value) : Prop :=
  w.heap.size + 1 < W.heap.size ∧ W.cell? ⟨w.heap.size, 0, none⟩ = some (.slice none 0 0) ∧ W.frozen? ⟨w.heap.size, 0, none⟩ = false ∧ W.cell? ⟨w.heap.size + 1, 0, none⟩ = some v ∧ W.frozen? ⟨w.heap.size + 1, 0, none⟩ = false
theorem TwoV.later {w W W' : World} {v : Value} (h : TwoV w W v) (b : Later W W') : TwoV w W' v :=
  ⟨Nat.lt_of_lt_of_le h.1 b.size, by rw [b.cell (p := ⟨w.heap.size, 0, none⟩) (by have := h.1; simp; omega)]; exact h.2.1, by rw [Below.frozen (p := ⟨w.heap.size, 0, none⟩) b (by have := h.1; simp; omega)]; exact h.2.2.1, by rw [b.cell (p := ⟨w.heap.size + 1, 0, none⟩) h.1]; exact h.2.2.2.1, by rw [Below.frozen (p := ⟨w.heap.size + 1, 0, none⟩) b h.1]; exact h.2.2.2.2⟩
theorem TwoV.set {w W : World} {v : Value} (h : TwoV w W v) (u : Value) : TwoV w (W.setCell ⟨w.heap.size + 1, 0, none⟩ u) u :=
  ⟨by rw [World.size_setCell]; exact h.1, by rw [World.cell?_setCell_other _ _ _ _ (by simp)]; exact h.2.1, by rw [World.frozen?_setCell]; exact h.2.2.1, World.cell?_setCell_same _ _ _ h.2.2.2.1, by rw [World.frozen?_setCell]; exact h.2.2.2.2⟩
theorem TwoV.grown {w W W' : World} {v : Value} {row : Option Nat} (h : TwoV w W v) (hg : W.grownBy W' row) (hr : ∀ k, row = some k → w.heap.size + 2 ≤ k) : TwoV w W' v := by
  have hb : Below (w.heap.size + 2) W W' := (Below.refl _ _).grown hg h.1 hr
  refine ⟨Nat.lt_of_lt_of_le h.1 hb.size, ?_, ?_, ?_, ?_⟩
  · rw [Below.cell (p := ⟨w.heap.size, 0, none⟩) hb (by simp)]; exact h.2.1
  · rw [Below.frozen (p := ⟨w.heap.size, 0, none⟩) hb (by simp)]; exact h.2.2.1
  · rw [Below.cell (p := ⟨w.heap.size + 1, 0, none⟩) hb (by simp)]; exact h.2.2.2.1
  · rw [Below.frozen (p := ⟨w.heap.size + 1, 0, none⟩) hb (by simp)]; exact h.2.2.2.2
theorem Wds.below {N : Nat} {w w' : World} {g n cap : Nat} {W : List (List UInt8)} (h : Wds w g n cap W) (hg : g < N) (hb : Below N w w') : Wds w' g n cap W :=
  ⟨h.1, h.2.1, Nat.lt_of_lt_of_le h.2.2.1 hb.size, fun j hj => by rw [Below.cell (p := ⟨g, j, none⟩) hb hg]; exact h.2.2.2 j hj⟩
theorem Wds.far {w : World} {g n cap : Nat} {W : List (List UInt8)} (h : Wds w g n cap W) {b : Nat} (hb : b ≠ g) (o : Nat) (u : Value) : Wds (w.setCell ⟨b, o, none⟩ u) g n cap W :=
  ⟨h.1, h.2.1, by rw [World.size_setCell]; exact h.2.2.1, fun j hj => by rw [World.cell?_setCell_other _ _ _ _ (by simp <;> omega)]; exact h.2.2.2 j hj⟩
theorem OwnS.far {w : World} {base : Nat} {v : Value} {L : List Sg} (h : OwnS w base v L) {g : Nat} (hg : g < base) (j : Nat) (u : Value) : OwnS (w.setCell ⟨g, j, none⟩ u) base v L :=
  h.kept2 (grown_set w g j u) (fun k hk e => by cases e; have := (h.lt _ hk).1; omega)
theorem sg7_vals (y : Sg) : #[Value.int .i64 y.k, .int .i64 y.l, .int .i64 y.r, .int .i64 y.a, .int .i64 y.b, .int .i64 y.c, .int .i64 y.d] = (sgVals [y]).toArray := rfl
set_option maxRecDepth 100000 in
theorem i_ReadLayout (s : ByteArray) (w : World) (hs : s.size ≤ 1048576) (ht : Tab w) (hm : MaxL w) (he : Errs w) : Calls Tryz.prog 7 #[.string s] w (ReadsR w s.data.toList) := by
  obtain ⟨l, hl⟩ : ∃ l, l = s.data.toList := ⟨_, rfl⟩
  have hlen : l.length = s.size := by rw [hl]; rfl
  rw [← hl]
  have HL := Lib.hid hl
  have HLEN := Lib.hid hlen
  have HE := Lib.hid he
  have HT := Lib.hid ht
  have HM := Lib.hid hm
  clear hl hlen he ht
  have A0 : Later w ((w.alloc (.cells #[.slice none 0 0] 26)).alloc (.cells #[.slice none 0 0] 26)) := ((Later.refl w).alloc _).alloc _
  have V0 : TwoV w ((w.alloc (.cells #[.slice none 0 0] 26)).alloc (.cells #[.slice none 0 0] 26)) (.slice none 0 0) := by
    refine ⟨by simp, by simp, by simp, ?_, by simp⟩
    simp
  have V0H := Lib.hid V0
  have A0H := Lib.hid A0
  clear V0 A0
  go_enter Tryz.func7, Tryz.ntmps7
  go_wp2_with fail
  refine (i_SplitL s _ hs (HM.out.later A0H.out)).mono ?_
  rw [← HL.out]
  rintro e w1 ⟨g, q, cap, W, hgb, hW, rfl, hwd, hb, hcap⟩
  have B1 := Lib.hid (Later.trans A0H.out hb)
  have V1 := Lib.hid (V0H.out.later hb)
  have hz1 : w.heap.size + 1 < w1.heap.size := V1.out.1
  have HLO : Hid (LnOf l W) := Lib.hid (fun M hM hlM => by rw [hW]; exact lines_cut hlM ((layB_iff M).1 hM).2.1 _ rfl)
  have hlW := splitK_len 10 (min 25 (l.length + 1) - 1) l
  rw [← hW] at hlW
  have HQ := Lib.hid hwd.1
  have hq1 : 1 ≤ q := by rw [HQ.out]; exact hlW.1
  have hq25 : q ≤ 25 := by rw [HQ.out]; have := hlW.2; omega
  have hgw : w.heap.size + 1 < g := by simp at hgb; omega
  have hqc := hwd.2.1
  have HWD := Lib.hid hwd
  have hmax : Hid (∀ k, (W.getD k []).length ≤ 1048576) := Lib.hid (fun k => by
    rw [List.getD_eq_getElem?_getD]
    cases h : W[k]? with
    | none => simp
    | some y =>
      have := splitK_le 10 _ l y (by rw [← hW]; exact List.mem_of_getElem? h)
      have h2 := HLEN.out
      simp; omega)
  clear hW hwd hb hm hlW hgb
  obtain ⟨m, hqm⟩ : ∃ m, q = m + 1 := ⟨q - 1, by omega⟩
  unfold ReadsR
  have hm1 : (q : Int) - 1 = (m : Int) := by omega
  have hmw : IntKind.i64.wrap ((q : Int) - 1) = (m : Int) := by rw [IntWalk.i64_in _ (by omega)]; omega
  have hmn : ((m : Int)).toNat = m := by omega
  have hm0 : (0 : Int) ≤ m := by omega
  have hmc : m ≤ cap := by omega
  have HQM := Lib.hid hqm
  clear hqm
  go_wp2_with fail
  go_loopw [18] (fun i wr => ∃ (k : Nat) (L : List Sg) (v : Value), i = .int .i64 k ∧ k ≤ m ∧ Hid (RdTo l k L) ∧ OwnS wr w1.heap.size v L ∧ TwoV w wr v ∧ Wds wr g q cap W ∧ w1.heap.size ≤ wr.heap.size ∧ Later w wr) (fun i _ => m - (intOf i).toNat)
  case atStart => exact ⟨0, [], _, rfl, by omega, Lib.hid (rdTo_nil l), ownS_none _ _, V1.out, HWD.out, Nat.le_refl _, B1.out⟩
  case round =>
    obtain ⟨k, L, v, rfl, hk, HR, ho, hv, hwd, hsz1, hb⟩ := hrel
    have O2 := Lib.hid ho; have V2 := Lib.hid hv; have WD2 := Lib.hid hwd; have B2 := Lib.hid hb
    clear ho hv hwd hb
    have hz2 := V2.out.1
    by_cases hlt : k < m
    · obtain ⟨wk, hwk⟩ : ∃ u, u = W.getD k [] := ⟨_, rfl⟩
      have hwl := hmax.out k
      rw [← hwk] at hwl
      have hwl' : (tx wk).size ≤ 1048576 := by rw [tx_size]; omega
      have cw : wr.cell? ⟨g, k, none⟩ = some (.string (tx wk)) := by rw [hwk]; exact WD2.out.2.2.2 k (by have := HQM.out; omega)
      have hgr := WD2.out.2.2.1
      have hkq : k < q := by have := HQM.out; omega
      have HWK := Lib.hid hwk
      clear hwk
      go_wp2_with fail
      refine (i_readSegment _ _ hwl' (HM.out.later (Later.trans B2.out (by repeat (first | (with_reducible exact Later.refl _) | (with_reducible refine Later.drewN ?_ _) | (with_reducible refine Later.drew ?_))))) (HE.out.lat (Later.trans B2.out (by repeat (first | (with_reducible exact Later.refl _) | (with_reducible refine Later.drewN ?_ _) | (with_reducible refine Later.drew ?_)))))).mono ?_
      rintro e w4 ⟨hb4, y, b, hy, rfl⟩
      have HY : Hid (RSg (W.getD k []) y b) := Lib.hid (by rw [← HWK.out]; exact hy)
      have B4 := Lib.hid (Later.trans B2.out (Later.trans (by repeat (first | (with_reducible exact Later.refl _) | (with_reducible refine Later.drewN ?_ _) | (with_reducible refine Later.drew ?_))) hb4))
      have WD4 := Lib.hid (WD2.out.later (Later.trans (by repeat (first | (with_reducible exact Later.refl _) | (with_reducible refine Later.drewN ?_ _) | (with_reducible refine Later.drew ?_))) hb4))
      have hb4s : wr.heap.size ≤ w4.heap.size := hb4.size
      have V4 := Lib.hid (V2.out.later (Later.trans (by repeat (first | (with_reducible exact Later.refl _) | (with_reducible refine Later.drewN ?_ _) | (with_reducible refine Later.drew ?_))) hb4))
      have O4 := Lib.hid (O2.out.below (Later.trans (by repeat (first | (with_reducible exact Later.refl _) | (with_reducible refine Later.drewN ?_ _) | (with_reducible refine Later.drew ?_))) hb4))
      have hz4 := V4.out.1
      have hin := hy.1
      have hz4a : w.heap.size < w4.heap.size := by omega
      have hz4b : w.heap.size ≠ w4.heap.size := by omega
      have hz4c : w.heap.size + 1 ≠ w4.heap.size := by omega
      clear hb4 hy cw
      unfold agg7
      cases b
      · have HX := Lib.hid (rd_bad HLO.out (by rw [← HQ.out, HQM.out]; omega) HY.out)
        have v0 := V4.out.2.1; have v1 := V4.out.2.2.1
        clear hin
        go_wp2_with fail
        refine bodyPost_ret (v := .tuple #[.agg #[.slice none 0 0], .bool false]) (by simp [results, Tryz.results7, go_sem, *] <;> omega) rfl ⟨(by repeat (first | (with_reducible exact Later.refl _) | (with_reducible exact Hid.out (by assumption)) | (with_reducible refine Later.alloc ?_ _) | (with_reducible refine Later.setCell ?_ (by simp; omega) _) | (with_reducible refine Later.setCell ?_ (by simp) _) | (with_reducible refine Later.drewN ?_ _) | (with_reducible refine Later.drew ?_) | (with_reducible refine Later.trans ?_ (Hid.out (by assumption))))), .inr ⟨HX.out, rfl⟩⟩
      · have HR' := Lib.hid (rdTo_snoc HLO.out HR.out (by rw [← HQ.out, HQM.out]; omega) HY.out)
        have hLl := HR.out.1
        obtain ⟨yk, yl, yr, ya, yb, yc, yd⟩ := y
        have hLn : L.length + 1 ≤ 1000000000 := by omega
        have v0 := V4.out.2.2.2.1; have v1 := V4.out.2.2.2.2
        have b6 : w1.heap.size ≤ w4.heap.size := by omega
        clear hLl
        go_wp2_with (at_builtin; go_must (refine appS rfl _ _ rfl w1.heap.size _ _ _ L [⟨yk, yl, yr, ya, yb, yc, yd⟩] 1 _ rfl rfl (O4.out.below ((Later.refl _).alloc _)) rfl (by first | rfl | (rw [World.size_alloc]; rfl)) (fun x hx => by simp at hx; subst hx; exact hin) hLn (by rw [World.size_alloc]; omega) ?_; intro v' w7 ho hg; obtain ⟨a7, cp7, hv7, _, _, _⟩ := ho.sgs; generalize (L ++ [Sg.mk yk yl yr ya yb yc yd]).length = n7 at hv7; subst hv7; have O7 := Lib.hid ho; have V7 := Lib.hid ((V4.out.later ((Later.refl _).alloc _)).grown hg (fun j hj => by have := (O4.out.lt j hj).1; omega)); have WD7 := Lib.hid ((WD4.out.later ((Later.refl _).alloc _)).below (N := w1.heap.size) HWD.out.2.2.1 ((Below.refl _ _).grown hg (by rw [World.size_alloc]; omega) (fun j hj => (O4.out.lt j hj).1))); have hz7 : w1.heap.size ≤ w7.heap.size := Nat.le_trans (by rw [World.size_alloc]; omega) hg.4; have B7 : Hid (Later w w7) := Lib.hid (Below.grown (B4.out.alloc _) hg (by rw [World.size_alloc]; omega) (fun j hj => by have := (O4.out.lt j hj).1; omega)); have v0 := V7.out.2.2.2.1; have v1 := V7.out.2.2.2.2; clear ho hg))
        go_roundw
        case rel => exact ⟨k + 1, _, _, by go_num, by omega, HR', O7.out.far (by omega) _ _, V7.out.set _, WD7.out.far (by omega) _ _, by rw [World.size_setCell]; exact hz7, B7.out.setCell (by simp) _⟩
        case measure => simp [intOf]; omega
    · obtain rfl : k = m := by omega
      have v0 := V2.out.2.2.2.1; have v1 := V2.out.2.2.2.2
      have r0 := V2.out.2.1; have r1 := V2.out.2.2.1
      obtain ⟨a, cp, rfl, hcp, hsg, hab⟩ := O2.out.sgs
      have HSG := Lib.hid hsg
      clear hsg hab
      have HEND := Lib.hid (rd_end HLO.out HR.out (by rw [← HQ.out]; exact HQM.out))
      cases hL : layB L
      · have HX := Lib.hid (rd_no HEND.out hL)
        go_wp2_with (go_at_call 11; refine (i_IsLayout _ _ _ L _ (HSG.out.later (by repeat (first | (with_reducible exact Later.refl _) | (with_reducible refine Later.drewN ?_ _) | (with_reducible refine Later.drew ?_))))).mono ?_; rw [hL]; rintro e w5 ⟨rfl, hb5⟩; have B5 := Lib.hid (Later.trans B2.out hb5); have V5 := Lib.hid (V2.out.later hb5); have r0 := V5.out.2.1; have r1 := V5.out.2.2.1; clear hb5)
        refine bodyPost_ret (v := .tuple #[.agg #[.slice none 0 0], .bool false]) (by simp [results, Tryz.results7, go_sem, *] <;> omega) rfl ⟨(by repeat (first | (with_reducible exact Later.refl _) | (with_reducible exact Hid.out (by assumption)) | (with_reducible refine Later.alloc ?_ _) | (with_reducible refine Later.setCell ?_ (by simp) _) | (with_reducible refine Later.drewN ?_ _) | (with_reducible refine Later.drew ?_) | (with_reducible refine Later.trans ?_ (Hid.out (by assumption))))), .inr ⟨HX.out, rfl⟩⟩
      · have HX0 : Hid (layTx L = linTx L) := Lib.hid (by unfold layTx; rw [if_pos hL])
        by_cases hq : layTx L = l
        · have e1 : ((tx (layTx L)).toList == s.toList) = true := by
            rw [Lib.toList_data, Lib.toList_data, ← HL.out, hq]; simp [tx]
          have HLL : Hid (l = linTx L) := Lib.hid (by rw [← hq]; exact HX0.out)
          clear hq
          go_wp2_with (first | (go_at_call 11; refine (i_IsLayout _ _ _ L _ (HSG.out.later (by repeat (first | (with_reducible exact Later.refl _) | (with_reducible refine Later.drewN ?_ _) | (with_reducible refine Later.drew ?_))))).mono ?_; rw [hL]; rintro e w5 ⟨rfl, hb5⟩; have B5 := Lib.hid (Later.trans B2.out hb5); have V5 := Lib.hid (V2.out.later hb5); have S5 := Lib.hid (HSG.out.later hb5); have O5 := Lib.hid (O2.out.below hb5); have v0 := V5.out.2.2.2.1; clear hb5) | (go_at_call 6; refine (i_LayoutText _ _ _ L _ S5.out (HT.out.later B5.out)).mono ?_; rintro e w6 ⟨rfl, hb6⟩; have B6 := Lib.hid (Later.trans B5.out hb6); have V6 := Lib.hid (V5.out.later hb6); have O6 := Lib.hid (O5.out.below hb6); have v0 := V6.out.2.2.2.1; have r0 := V6.out.2.1; have r1 := V6.out.2.2.1; clear hb6))
          refine bodyPost_ret (v := .tuple #[.agg #[.slice a L.length cp], .bool true]) (by simp [results, Tryz.results7, go_sem, *] <;> omega) rfl ⟨(by repeat (first | (with_reducible exact Later.refl _) | (with_reducible exact Hid.out (by assumption)) | (with_reducible refine Later.alloc ?_ _) | (with_reducible refine Later.setCell ?_ (by simp) _) | (with_reducible refine Later.drewN ?_ _) | (with_reducible refine Later.drew ?_) | (with_reducible refine Later.trans ?_ (Hid.out (by assumption))))), .inl ⟨L, _, hL, HLL.out, rfl, (O6.out.far (by omega) _ _).mono (by omega)⟩⟩
        · have e1 : ((tx (layTx L)).toList == s.toList) = false := by
            rw [Lib.toList_data, Lib.toList_data, ← HL.out]
            show (layTx L == l) = false
            simpa using hq
          have HX := Lib.hid (rd_ne HEND.out hq)
          clear hq
          go_wp2_with (first | (go_at_call 11; refine (i_IsLayout _ _ _ L _ (HSG.out.later (by repeat (first | (with_reducible exact Later.refl _) | (with_reducible refine Later.drewN ?_ _) | (with_reducible refine Later.drew ?_))))).mono ?_; rw [hL]; rintro e w5 ⟨rfl, hb5⟩; have B5 := Lib.hid (Later.trans B2.out hb5); have V5 := Lib.hid (V2.out.later hb5); have S5 := Lib.hid (HSG.out.later hb5); have O5 := Lib.hid (O2.out.below hb5); have v0 := V5.out.2.2.2.1; clear hb5) | (go_at_call 6; refine (i_LayoutText _ _ _ L _ S5.out (HT.out.later B5.out)).mono ?_; rintro e w6 ⟨rfl, hb6⟩; have B6 := Lib.hid (Later.trans B5.out hb6); have V6 := Lib.hid (V5.out.later hb6); have O6 := Lib.hid (O5.out.below hb6); have v0 := V6.out.2.2.2.1; have r0 := V6.out.2.1; have r1 := V6.out.2.2.1; clear hb6))
          refine bodyPost_ret (v := .tuple #[.agg #[.slice none 0 0], .bool false]) (by simp [results, Tryz.results7, go_sem, *] <;> omega) rfl ⟨(by repeat (first | (with_reducible exact Later.refl _) | (with_reducible exact Hid.out (by assumption)) | (with_reducible refine Later.alloc ?_ _) | (with_reducible refine Later.setCell ?_ (by simp) _) | (with_reducible refine Later.drewN ?_ _) | (with_reducible refine Later.drew ?_) | (with_reducible refine Later.trans ?_ (Hid.out (by assumption))))), .inr ⟨HX.out, rfl⟩⟩
end Go.Proofs.YtkhhoajoionlfaaGreatDoor
namespace Go.Proofs.YtkhhoajoionlfaaGreatDoor
open Go.RowKit
set_option maxHeartbeats 2000000
set_option linter.unusedVariables false
set_option linter.unusedSimpArgs false
set_option maxRecDepth 100000 in
theorem s_IsLayout (a : Option Addr) (n cap : Nat) (L : List Sg) (w : World) (hs : Sgs w a n L) :
    Calls Tryz.prog 12 #[.agg #[.slice a n cap]] w fun e w' => e = .returned (.bool (layB L)) ∧ Later w w' := by
  have HS := Lib.hid hs
  have HL := Lib.hid hs.1
  have hn := hs.2.1
  clear hs
  by_cases h : 3 ≤ n ∧ n ≤ 24
  · obtain ⟨h1, h2⟩ := h
    go_enter Tryz.func12, Tryz.ntmps12
    go_wp2_with fail
    go_loopw [4, 5] (fun hh i wr => ∃ k : Nat, k ≤ n ∧ i = .int .i64 k ∧ hh = .int .i64 (upR L k) ∧ okB L k = true ∧ wr.cell? ⟨w.heap.size, 0, none⟩ = some (.slice a n cap) ∧ w.heap.size < wr.heap.size ∧ Later w wr) (fun _ i _ => n - (intOf i).toNat)
    case atStart => exact ⟨0, by omega, rfl, by rw [upR_0], okB_0 L, by simp, by simp, (Later.refl _).alloc _⟩
    case round =>
      obtain ⟨k, hk, rfl, rfl, hok, cb, hsz, hlw⟩ := hrel
      have HO := Lib.hid hok; have HW := Lib.hid hlw
      clear hok hlw
      obtain ⟨bd1, bd2, _, _⟩ := up_bd L k (by rw [HL.out]; exact hk) HO.out
      by_cases hlt : k < n
      · obtain ⟨b', off', rfl, hb', hc⟩ := (HS.out.later HW.out).at k hlt
        obtain ⟨c0, c1, c2, c3, c4, c5, c6⟩ := hc
        cases hv : sgB (sx L k)
        · have HV := Lib.hid (layB_bad HL.out hlt hv)
          go_wp2_with (go_at_call 28; refine (s_IsSegment (sx L k) _).mono ?_; rintro e w1 ⟨rfl, hb⟩; obtain ⟨H, hcc, hff, hzz⟩ := later_facts hb; clear hb; (try simp at hzz); (try simp only [World.heap_drewN, World.cell?_drewN, World.frozen?_drewN] at hcc hff))
          go_ret
          exact ⟨ret_b (by rw [HV.out]), (by repeat (first | exact Later.refl _ | exact Hid.out (by assumption) | refine Later.set_at ?_ ?_ _ _ | refine Later.alloc ?_ _ | refine Later.drewN ?_ _ | refine Later.drew ?_ | refine Later.trans ?_ (Hid.out (by assumption))))⟩
        · have HV := Lib.hid hv
          have hr := (sgB_iff _).1 hv
          have r1 := hr.2.2.1.1; have r2 := hr.2.2.1.2.1
          clear hr
          go_wp2_with (go_at_call 28; refine (s_IsSegment (sx L k) _).mono ?_; rintro e w1 ⟨rfl, hb⟩; obtain ⟨H, hcc, hff, hzz⟩ := later_facts hb; clear hb; (try simp at hzz); (try simp only [World.heap_drewN, World.cell?_drewN, World.frozen?_drewN] at hcc hff))
          go_roundw
          case rel => exact ⟨k + 1, by omega, by go_num, by rw [upR_succ L k (by rw [HL.out]; exact hlt)], by rw [okB_succ L k (by rw [HL.out]; exact hlt), HO.out, HV.out]; rfl, by rw [hcc _ _ hsz]; exact cb, by omega, (by repeat (first | exact Later.refl _ | exact Hid.out (by assumption) | refine Later.set_at ?_ ?_ _ _ | refine Later.alloc ?_ _ | refine Later.drewN ?_ _ | refine Later.drew ?_ | refine Later.trans ?_ (Hid.out (by assumption))))⟩
          case measure => simp [intOf]; omega
      · obtain rfl : k = n := by omega
        obtain ⟨b', off', rfl, hb', hc⟩ := (HS.out.later HW.out).at (k - 1) (by omega)
        obtain ⟨c0, c1, c2, c3, c4, c5, c6⟩ := hc
        clear bd1 bd2
        by_cases hr0 : upR L k = 0
        · have er : (upR L k == 0) = true := by simpa using hr0
          by_cases h4 : (sx L (k - 1)).k = 4
          · have e4 : ((sx L (k - 1)).k == 4) = true := by simpa using h4
            have HF : Hid (layB L = true) := Lib.hid (by rw [layB_fin HL.out h1 h2 h4 HO.out, hr0]; simp)
            clear hr0 h4
            go_wp2
            go_ret
            exact ⟨ret_b (by rw [HF.out]), (by repeat (first | exact Later.refl _ | exact Hid.out (by assumption) | refine Later.set_at ?_ ?_ _ _ | refine Later.alloc ?_ _ | refine Later.drewN ?_ _ | refine Later.drew ?_ | refine Later.trans ?_ (Hid.out (by assumption))))⟩
          · have e4 : ((sx L (k - 1)).k == 4) = false := by simpa using h4
            have HF : Hid (layB L = false) := Lib.hid (layB_last HL.out h4)
            clear hr0 h4
            go_wp2
            go_ret
            exact ⟨ret_b (by rw [HF.out]), (by repeat (first | exact Later.refl _ | exact Hid.out (by assumption) | refine Later.set_at ?_ ?_ _ _ | refine Later.alloc ?_ _ | refine Later.drewN ?_ _ | refine Later.drew ?_ | refine Later.trans ?_ (Hid.out (by assumption))))⟩
        · have er : (upR L k == 0) = false := by simpa using hr0
          have HF : Hid (layB L = false) := Lib.hid (by rw [layB_no]; rintro ⟨_, _, _, e, _⟩; rw [HL.out] at e; exact hr0 e)
          clear hr0
          go_wp2
          go_ret
          exact ⟨ret_b (by rw [HF.out]), (by repeat (first | exact Later.refl _ | exact Hid.out (by assumption) | refine Later.set_at ?_ ?_ _ _ | refine Later.alloc ?_ _ | refine Later.drewN ?_ _ | refine Later.drew ?_ | refine Later.trans ?_ (Hid.out (by assumption))))⟩
  · have HF := Lib.hid (layB_len HL.out h)
    have hn : n < 3 ∨ 24 < n := by omega
    clear h
    rcases hn with hn | hn
    all_goals
      go_enter Tryz.func12, Tryz.ntmps12
      go_wp2_with fail
      go_ret
      exact ⟨ret_b (by rw [HF.out]), (by repeat (first | exact Later.refl _ | exact Hid.out (by assumption) | refine Later.set_at ?_ ?_ _ _ | refine Later.alloc ?_ _ | refine Later.drewN ?_ _ | refine Later.drew ?_ | refine Later.trans ?_ (Hid.out (by assumption))))⟩
end Go.Proofs.YtkhhoajoionlfaaGreatDoor
namespace Go.Proofs.YtkhhoajoionlfaaGreatDoor
open Go.RowKit Go.Shelf
set_option maxHeartbeats 4000000
set_option linter.unusedVariables false
set_option linter.unusedSimpArgs false
theorem isWords_in {W : List (List UInt8)} {x : Sg} (h : IsWords W x) : x.In := by
  obtain ⟨_, hk, _, hz⟩ := h
  unfold kndB at hk
  simp at hk
  have z0 := hz 0 (by omega); have z1 := hz 1 (by omega); have z2 := hz 2 (by omega); have z3 := hz 3 (by omega); have z4 := hz 4 (by omega); have z5 := hz 5 (by omega)
  unfold IsZ Sg.at at z0 z1 z2 z3 z4 z5
  simp only [] at z0 z1 z2 z3 z4 z5
  intro j
  unfold Sg.at
  split <;> omega
theorem rsg_words {u : List UInt8} {x : Sg} (h : IsWords (spl 32 u) x) : RSg u x true := by
  refine ⟨isWords_in h, fun y hy hu => ⟨?_, rfl⟩⟩
  rw [hu] at h
  exact isWords_inj h (isWords_wds y hy)
theorem rsg_nowords {u : List UInt8} (h : ∀ x, ¬ IsWords (spl 32 u) x) : RSg u sg0 false := by
  refine ⟨fun j => by unfold sg0 Sg.at; split <;> decide, fun y hy hu => ?_⟩
  rw [hu] at h
  exact absurd (isWords_wds y hy) (h y)
/-- 'the first k lines are the texts of L' -/
def TxTo (W : List (List UInt8)) (k : Nat) (L : List Sg) : Prop := W.take k = L.map segTx
theorem txTo_snoc {W : List (List UInt8)} {k : Nat} {L : List Sg} {x : Sg} (h : TxTo W k L) (hk : k < W.length) (hx : IsWords (spl 32 (W.getD k [])) x) : TxTo W (k + 1) (L ++ [x]) := by
  unfold TxTo at *
  have e : W[k] = segTx x := by
    have := isWords_text hx
    rw [List.getD_eq_getElem?_getD, List.getElem?_eq_getElem hk] at this
    exact this
  rw [List.take_succ_eq_append_getElem hk, h, e]
  simp
theorem tx_end {l : List UInt8} {W : List (List UInt8)} {k : Nat} {L : List Sg} (hW : W = spl 10 l) (h : TxTo W k L) (hk : W.length = k + 1) (h0 : W.getD k [] = []) : l = linTx L := by
  refine lin_of_spl L l ?_
  rw [← hW, ← h]
  have e : W[k]'(by omega) = [] := by
    rw [List.getD_eq_getElem?_getD, List.getElem?_eq_getElem (by omega)] at h0
    exact h0
  have h1 : W.take (k + 1) = W.take k ++ [W[k]'(by omega)] := List.take_succ_eq_append_getElem (by omega)
  rw [e, ← hk, List.take_length] at h1
  exact h1
theorem ln_spl {l : List UInt8} : LnOf l (spl 10 l) := fun M _ hl => by rw [hl]; exact spl_linTx M
theorem rd_last {l : List UInt8} {W : List (List UInt8)} {k : Nat} (h : LnOf l W) (hk : W.length = k + 1) (h0 : W.getD k [] ≠ []) : ∀ M, layB M = true → l ≠ linTx M := by
  intro M hM hl
  have hW := h M hM hl
  refine h0 ?_
  have hl2 := congrArg List.length hW
  rw [hk] at hl2
  simp at hl2
  rw [hW, List.getD_eq_getElem?_getD, List.getElem?_append_right (by simp; omega), hl2]
  simp
/-- the result's variable, still nothing -/
def OneV (w W : World) : Prop := w.heap.size < W.heap.size ∧ W.cell? ⟨w.heap.size, 0, none⟩ = some (.slice none 0 0) ∧ W.frozen? ⟨w.heap.size, 0, none⟩ = false
theorem OneV.later {w W W' : World} (h : OneV w W) (b : Later W W') : OneV w W' :=
  ⟨Nat.lt_of_lt_of_le h.1 b.size, by rw [b.cell (p := ⟨w.heap.size, 0, none⟩) h.1]; exact h.2.1, by rw [Below.frozen (p := ⟨w.heap.size, 0, none⟩) b h.1]; exact h.2.2⟩
set_option maxRecDepth 100000 in
theorem s_ReadLayout (s : ByteArray) (w : World) (hs : s.size ≤ 1048576) : Calls Tryz.prog 9 #[.string s] w (ReadsR w s.data.toList) := by
  obtain ⟨l, hl⟩ : ∃ l, l = s.data.toList := ⟨_, rfl⟩
  have hlen : l.length = s.size := by rw [hl]; rfl
  rw [← hl]
  have HL := Lib.hid hl
  have HLEN := Lib.hid hlen
  clear hl hlen
  have V0H : Hid (OneV w (w.alloc (.cells #[.slice none 0 0] 26))) := Lib.hid ⟨by simp, by simp, by simp⟩
  go_enter Tryz.func9, Tryz.ntmps9
  go_wp2_with fail
  refine (s_Split10 s _ hs).mono ?_
  rw [← HL.out]
  rintro e w1 ⟨vw, rfl, hov, hb⟩
  have B1 := Lib.hid (Later.trans ((Later.refl w).alloc _) hb)
  have V1 := Lib.hid (V0H.out.later hb)
  have hz1 : w.heap.size < w1.heap.size := V1.out.1
  clear hb
  obtain ⟨W, hW⟩ : ∃ W, W = spl 10 l := ⟨_, rfl⟩
  have HWd := Lib.hid hW
  have HLO : Hid (LnOf l W) := Lib.hid (by rw [hW]; exact ln_spl)
  unfold ReadsR
  rw [← hW] at hov
  obtain ⟨g, cap, rfl, hcap, hg, hgb, hcell⟩ := hov.row (by rw [hW]; exact spl_ne _ _)
  have hmax : Hid (∀ k, (W.getD k []).length ≤ 1048576) := Lib.hid (fun k => by
    rw [List.getD_eq_getElem?_getD]
    cases h : W[k]? with
    | none => simp
    | some y =>
      have := spl_le 10 l y (by rw [← hW]; exact List.mem_of_getElem? h)
      have h2 := HLEN.out
      simp; omega)
  have hcnt : W.length ≤ 1048577 := by rw [hW]; have := spl_count 10 l; rw [HLEN.out] at this; omega
  have hne : W.length ≠ 0 := fun h => spl_ne 10 l (by rw [← hW]; exact List.length_eq_zero_iff.1 h)
  have HWD : Hid (Wds w1 g W.length cap W) := Lib.hid ⟨rfl, hcap, hg, fun j hj => by
    have h := hcell j (tx (W.getD j [])) (by
      rw [List.getElem?_map, List.getElem?_eq_getElem hj]
      simp [List.getD_eq_getElem?_getD, List.getElem?_eq_getElem hj])
    rw [Nat.zero_add] at h
    exact h⟩
  obtain ⟨q, hq⟩ : ∃ q, q = W.length := ⟨_, rfl⟩
  rw [← hq] at hcap hcnt hne HWD ⊢
  have HQ := Lib.hid hq
  clear hcell hW hov hq
  obtain ⟨m, hqm⟩ : ∃ m, q = m + 1 := ⟨q - 1, by omega⟩
  have hm1 : (q : Int) - 1 = (m : Int) := by omega
  have hmw : IntKind.i64.wrap ((q : Int) - 1) = (m : Int) := by rw [IntWalk.i64_in _ (by omega)]; omega
  have hmn : ((m : Int)).toNat = m := by omega
  have hm0 : (0 : Int) ≤ m := by omega
  have HQM := Lib.hid hqm
  have hmq : m < q := by omega
  clear hqm hne
  have O1 := Lib.hid (ownS_new w1 w1.heap.size (Nat.le_refl _))
  go_wp2_with fail
  go_loopw [5, 6] (fun v i wr => ∃ (k : Nat) (L : List Sg), i = .int .i64 k ∧ k ≤ m ∧ Hid (RdTo l k L) ∧ Hid (TxTo W k L) ∧ OwnS wr w1.heap.size v L ∧ Later w1 wr) (fun _ i _ => m - (intOf i).toNat)
  case atStart => exact ⟨0, [], rfl, by omega, Lib.hid (rdTo_nil l), Lib.hid (by unfold TxTo; simp), O1.out, (Later.refl _).alloc _⟩
  case round =>
    obtain ⟨k, L, rfl, hk, HR, HTX, ho, hb⟩ := hrel
    have O2 := Lib.hid ho; have B12 := Lib.hid hb
    have B2 : Hid (Later w wr) := Lib.hid (Later.trans B1.out hb)
    have V2 := Lib.hid (V1.out.later hb)
    clear ho hb
    have hz2 := V2.out.1
    by_cases hlt : k < m
    · obtain ⟨wk, hwk⟩ : ∃ u, u = W.getD k [] := ⟨_, rfl⟩
      have hwl := hmax.out k
      rw [← hwk] at hwl
      have hwl' : (tx wk).size ≤ 1048576 := by rw [tx_size]; omega
      have cw : wr.cell? ⟨g, k, none⟩ = some (.string (tx wk)) := by rw [hwk]; exact (HWD.out.later B12.out).2.2.2 k (by omega)
      have hgr := (HWD.out.later B12.out).2.2.1
      have hkq : k < q := by omega
      have hk1 : ((k : Int) + 1 < (q : Int)) = True := by simp; omega
      have HWK := Lib.hid hwk
      clear hwk
      go_wp2_with fail
      refine (s_Segment _ _ hwl').mono ?_
      rintro e w4 ⟨hb4, hres⟩
      have B4 := Lib.hid (Later.trans B2.out (Later.trans (by repeat (first | (with_reducible exact Later.refl _) | (with_reducible refine Later.drewN ?_ _) | (with_reducible refine Later.drew ?_))) hb4))
      have B14 := Lib.hid (Later.trans B12.out (Later.trans (by repeat (first | (with_reducible exact Later.refl _) | (with_reducible refine Later.drewN ?_ _) | (with_reducible refine Later.drew ?_))) hb4))
      have V4 := Lib.hid (V2.out.later (Later.trans (by repeat (first | (with_reducible exact Later.refl _) | (with_reducible refine Later.drewN ?_ _) | (with_reducible refine Later.drew ?_))) hb4))
      have O4 := Lib.hid (O2.out.below (Later.trans (by repeat (first | (with_reducible exact Later.refl _) | (with_reducible refine Later.drewN ?_ _) | (with_reducible refine Later.drew ?_))) hb4))
      have hz4 := V4.out.1
      have hz4b : w.heap.size ≠ w4.heap.size := by omega
      have b6 : w1.heap.size ≤ w4.heap.size := B14.out.size
      clear hb4 cw
      rcases hres with ⟨x, hx, rfl⟩ | ⟨hx, rfl⟩
      · have HR' := Lib.hid (rdTo_snoc HLO.out HR.out (by rw [← HQ.out, HQM.out]; omega) (by rw [← HWK.out]; exact rsg_words hx))
        have hkW : k < W.length := by rw [← HQ.out, HQM.out]; omega
        have HT' : Hid (TxTo W (k + 1) (L ++ [x])) := Lib.hid (txTo_snoc HTX.out hkW (by rw [← HWK.out]; exact hx))
        clear hkW
        have hLn : L.length + 1 ≤ 1000000000 := by have := HR.out.1; omega
        have hin := isWords_in hx
        clear hx
        obtain ⟨yk, yl, yr, ya, yb, yc, yd⟩ := x
        unfold agg7
        go_wp2_with (at_builtin; go_must (refine appS rfl _ _ rfl w1.heap.size _ _ _ L [⟨yk, yl, yr, ya, yb, yc, yd⟩] 1 _ rfl rfl (O4.out.below ((Later.refl _).alloc _)) rfl (by first | rfl | (rw [World.size_alloc]; rfl)) (fun x hx => by simp at hx; subst hx; exact hin) hLn (by rw [World.size_alloc]; omega) ?_; intro v' w7 ho hg; have O7 := Lib.hid ho; have B17 : Hid (Later w1 w7) := Lib.hid (Below.grown (B14.out.alloc _) hg (by rw [World.size_alloc]; omega) (fun j hj => (O4.out.lt j hj).1)); clear ho hg))
        go_roundw
        case rel => exact ⟨k + 1, _, by go_num, by omega, HR', HT', O7.out, B17.out⟩
        case measure => simp [intOf]; omega
      · have hkW : k + 1 < W.length := by rw [← HQ.out, HQM.out]; omega
        have HX := Lib.hid (rd_bad (y := sg0) HLO.out hkW (by rw [← HWK.out]; exact rsg_nowords hx))
        clear hkW
        have v0 := V4.out.2.1; have v1 := V4.out.2.2
        clear hx
        unfold agg7 sg0
        go_wp2_with fail
        refine bodyPost_ret (v := .tuple #[.agg #[.slice none 0 0], .bool false]) (by simp [results, Tryz.results9, go_sem, *] <;> omega) rfl ⟨(by repeat (first | (with_reducible exact Later.refl _) | (with_reducible exact Hid.out (by assumption)) | (with_reducible refine Later.alloc ?_ _) | (with_reducible refine Later.setCell ?_ (by simp; omega) _) | (with_reducible refine Later.setCell ?_ (by simp) _) | (with_reducible refine Later.drewN ?_ _) | (with_reducible refine Later.drew ?_) | (with_reducible refine Later.trans ?_ (Hid.out (by assumption))))), .inr ⟨HX.out, rfl⟩⟩
    · obtain rfl : k = m := by omega
      have hk1 : ((k : Int) + 1 < (q : Int)) = False := by simp; omega
      obtain ⟨a, cp, rfl, hcp, hsg, hab⟩ := O2.out.sgs
      have HSG := Lib.hid hsg
      clear hsg hab
      obtain ⟨wk, hwk⟩ : ∃ u, u = W.getD k [] := ⟨_, rfl⟩
      have cw : wr.cell? ⟨g, k, none⟩ = some (.string (tx wk)) := by rw [hwk]; exact (HWD.out.later B12.out).2.2.2 k (by omega)
      have hgr := (HWD.out.later B12.out).2.2.1
      have hgz : g ≠ wr.heap.size := by omega
      have r0 := V2.out.2.1; have r1 := V2.out.2.2
      have hz2b : w.heap.size ≠ wr.heap.size := by omega
      have HEND := Lib.hid (rd_end HLO.out HR.out (by rw [← HQ.out]; exact HQM.out))
      by_cases h0 : wk = []
      · have HLL : Hid (l = linTx L) := Lib.hid (tx_end HWd.out HTX.out (by rw [← HQ.out]; exact HQM.out) (by rw [← hwk]; exact h0))
        subst h0
        have e0 : ((tx []).toList).isEmpty = true := by rw [Lib.toList_data]; rfl
        clear hwk
        cases hL : layB L
        · have HX := Lib.hid (rd_no HEND.out hL)
          go_wp2_with (go_at_call 12; refine (s_IsLayout _ _ _ L _ (HSG.out.later (by repeat (first | (with_reducible exact Later.refl _) | (with_reducible refine Later.alloc ?_ _) | (with_reducible refine Later.drewN ?_ _) | (with_reducible refine Later.drew ?_))))).mono ?_; rw [hL]; rintro e w5 ⟨rfl, hb5⟩; have hb5' := Later.trans ((Later.refl wr).alloc _) hb5; have c9 := hb5.cell (p := ⟨wr.heap.size, 0, none⟩) (by simp); have B5 := Lib.hid (Later.trans B2.out hb5'); have V5 := Lib.hid (V2.out.later hb5'); have O5 := Lib.hid (O2.out.below hb5'); have r0 := V5.out.2.1; have r1 := V5.out.2.2; clear hb5 hb5')
          refine bodyPost_ret (v := .tuple #[.agg #[.slice none 0 0], .bool false]) (by simp [results, Tryz.results9, go_sem, *] <;> omega) rfl ⟨(by repeat (first | (with_reducible exact Later.refl _) | (with_reducible exact Hid.out (by assumption)) | (with_reducible refine Later.alloc ?_ _) | (with_reducible refine Later.setCell ?_ (by simp; omega) _) | (with_reducible refine Later.setCell ?_ (by simp) _) | (with_reducible refine Later.drewN ?_ _) | (with_reducible refine Later.drew ?_) | (with_reducible refine Later.trans ?_ (Hid.out (by assumption))))), .inr ⟨HX.out, rfl⟩⟩
        · go_wp2_with (go_at_call 12; refine (s_IsLayout _ _ _ L _ (HSG.out.later (by repeat (first | (with_reducible exact Later.refl _) | (with_reducible refine Later.alloc ?_ _) | (with_reducible refine Later.drewN ?_ _) | (with_reducible refine Later.drew ?_))))).mono ?_; rw [hL]; rintro e w5 ⟨rfl, hb5⟩; have hb5' := Later.trans ((Later.refl wr).alloc _) hb5; have c9 := hb5.cell (p := ⟨wr.heap.size, 0, none⟩) (by simp); have B5 := Lib.hid (Later.trans B2.out hb5'); have V5 := Lib.hid (V2.out.later hb5'); have O5 := Lib.hid (O2.out.below hb5'); have r0 := V5.out.2.1; have r1 := V5.out.2.2; clear hb5 hb5')
          refine bodyPost_ret (v := .tuple #[.agg #[.slice a L.length cp], .bool true]) (by simp [results, Tryz.results9, go_sem, *] <;> omega) rfl ⟨(by repeat (first | (with_reducible exact Later.refl _) | (with_reducible exact Hid.out (by assumption)) | (with_reducible refine Later.alloc ?_ _) | (with_reducible refine Later.setCell ?_ (by simp; omega) _) | (with_reducible refine Later.setCell ?_ (by simp) _) | (with_reducible refine Later.drewN ?_ _) | (with_reducible refine Later.drew ?_) | (with_reducible refine Later.trans ?_ (Hid.out (by assumption))))), .inl ⟨L, _, hL, HLL.out, rfl, (O5.out.far (by omega) _ _).mono (by omega)⟩⟩
      · have HX := Lib.hid (rd_last HLO.out (by rw [← HQ.out]; exact HQM.out) (by rw [← hwk]; exact h0))
        have e0 : ((tx wk).toList).isEmpty = false := by
          rw [Lib.toList_data]
          show wk.isEmpty = false
          simpa using h0
        clear hwk h0
        go_wp2_with fail
        refine bodyPost_ret (v := .tuple #[.agg #[.slice none 0 0], .bool false]) (by simp [results, Tryz.results9, go_sem, *] <;> omega) rfl ⟨(by repeat (first | (with_reducible exact Later.refl _) | (with_reducible exact Hid.out (by assumption)) | (with_reducible refine Later.alloc ?_ _) | (with_reducible refine Later.setCell ?_ (by simp; omega) _) | (with_reducible refine Later.setCell ?_ (by simp) _) | (with_reducible refine Later.drewN ?_ _) | (with_reducible refine Later.drew ?_) | (with_reducible refine Later.trans ?_ (Hid.out (by assumption))))), .inr ⟨HX.out, rfl⟩⟩
end Go.Proofs.YtkhhoajoionlfaaGreatDoor
namespace Go.Proofs.YtkhhoajoionlfaaGreatDoor
open Go.RowKit Go.Shelf
set_option maxHeartbeats 4000000
set_option linter.unusedVariables false
set_option linter.unusedSimpArgs false
theorem lay_all {L : List Sg} (h : layB L = true) : ∀ x ∈ L, sgB x = true := by
  have ho := ((layB_iff L).1 h).2.2.1
  intro x hx
  unfold okB at ho
  rw [List.take_length, List.all_eq_true] at ho
  exact ho x hx
theorem lay_one {L M : List Sg} {l : List UInt8} (hL : layB L = true) (hM : layB M = true) (h1 : l = linTx L) (h2 : l = linTx M) : M = L := lin_inj M L (lay_all hM) (lay_all hL) (h2.symm.trans h1)
/-- a layout that was read: its row -/
def LRow (w : World) (base : Nat) (v : Value) (L : List Sg) : Prop := ∃ g cap, v = .slice (some ⟨g, 0, none⟩) L.length cap ∧ base ≤ g ∧ SgRow w g L.length (flt L)
theorem OwnS.lrow {w : World} {base : Nat} {v : Value} {L : List Sg} (h : OwnS w base v L) (hL : layB L = true) : LRow w base v L := by
  rcases h.row with ⟨_, rfl⟩ | ⟨g, cap, e, _, _, hb, hr⟩
  · have := ((layB_iff _).1 hL).1; simp at this
  · exact ⟨g, cap, e, hb, hr⟩
theorem lay_in {L : List Sg} (hL : layB L = true) : ∀ x ∈ L, x.In := by
  intro x hx
  have := (sgB_iff x).1 (lay_all hL x hx)
  intro j
  unfold Sg.at
  split <;> (try omega)
  all_goals
    by_cases h0 : x.k = 0
    · have := this.2.2.2.2.1 h0; omega
    · have := this.2.2.2.2.2 h0; omega
theorem i_ReadYes {s : ByteArray} {L : List Sg} (hL : layB L = true) (hl : s.data.toList = linTx L) (w : World) (hs : s.size ≤ 1048576) (ht : Tab w) (hm : MaxL w) (he : Errs w) :
    Calls Tryz.prog 7 #[.string s] w fun e w' => ∃ g cap, e = .returned (.tuple #[.agg #[.slice (some ⟨g, 0, none⟩) L.length cap], .bool true]) ∧ w.heap.size ≤ g ∧ SgRow w' g L.length (flt L) ∧ Later w w' := by
  refine (i_ReadLayout s w hs ht hm he).mono ?_
  rintro e w' ⟨hb, h⟩
  rcases h with ⟨M, v, hM, hl2, rfl, ho⟩ | ⟨hno, _⟩
  · obtain rfl := lay_one hL hM hl hl2
    obtain ⟨g, cap, rfl, hg, hr⟩ := ho.lrow hM
    exact ⟨g, cap, rfl, hg, hr, hb⟩
  · exact absurd hl (hno L hL)
theorem i_ReadNo {s : ByteArray} (hno : ∀ L, layB L = true → s.data.toList ≠ linTx L) (w : World) (hs : s.size ≤ 1048576) (ht : Tab w) (hm : MaxL w) (he : Errs w) :
    Calls Tryz.prog 7 #[.string s] w fun e w' => e = .returned (.tuple #[.agg #[.slice none 0 0], .bool false]) ∧ Later w w' := by
  refine (i_ReadLayout s w hs ht hm he).mono ?_
  rintro e w' ⟨hb, h⟩
  rcases h with ⟨M, v, hM, hl2, rfl, ho⟩ | ⟨_, rfl⟩
  · exact absurd hl2 (hno M hM)
  · exact ⟨rfl, hb⟩
/-- a cell behind a later world -/
theorem cell_up {w w' : World} {b : Nat} {v : Value} (h : w.cell? ⟨b, 0, none⟩ = some v ∧ b < w.heap.size) (k : Later w w') : w'.cell? ⟨b, 0, none⟩ = some v ∧ b < w'.heap.size :=
  ⟨by rw [k.cell (p := ⟨b, 0, none⟩) h.2]; exact h.1, Nat.lt_of_lt_of_le h.2 k.size⟩
/-- what is read, whether there is a layout or none -/
def RdU (w : World) (l : List UInt8) (e : Ending) (w' : World) : Prop :=
  ∃ (b : Bool) (a : Option Addr) (n cap : Nat) (L : List Sg), e = .returned (.tuple #[.agg #[.slice a n cap], .bool b]) ∧ Sgs w' a n L ∧ Later w w' ∧ (b = true → layB L = true ∧ l = linTx L) ∧ (b = false → L = [] ∧ ∀ M, layB M = true → l ≠ linTx M)
theorem rdU_of {w w' : World} {l : List UInt8} {e : Ending} (h : ReadsR w l e w') : RdU w l e w' := by
  obtain ⟨hb, h⟩ := h
  rcases h with ⟨L, v, hL, hl, rfl, ho⟩ | ⟨hno, rfl⟩
  · obtain ⟨a, cap, rfl, _, hs, _⟩ := ho.sgs
    exact ⟨true, a, L.length, cap, L, rfl, hs, hb, fun _ => ⟨hL, hl⟩, fun h => by cases h⟩
  · exact ⟨false, none, 0, 0, [], rfl, Sgs.nil _ _, hb, (fun h => by cases h), fun _ => ⟨rfl, hno⟩⟩
/-- what two readings of one text tell is the same -/
theorem rdU_same {l : List UInt8} {b c : Bool} {L M : List Sg} (h1 : b = true → layB L = true ∧ l = linTx L) (h2 : b = false → L = [] ∧ ∀ M, layB M = true → l ≠ linTx M)
    (k1 : c = true → layB M = true ∧ l = linTx M) (k2 : c = false → M = [] ∧ ∀ M, layB M = true → l ≠ linTx M) : c = b ∧ M = L := by
  cases b <;> cases c
  · exact ⟨rfl, by rw [(h2 rfl).1, (k2 rfl).1]⟩
  · exact absurd (k1 rfl).2 ((h2 rfl).2 M (k1 rfl).1)
  · exact absurd (h1 rfl).2 ((k2 rfl).2 L (h1 rfl).1)
  · exact ⟨rfl, lay_one (h1 rfl).1 (k1 rfl).1 (h1 rfl).2 (k1 rfl).2⟩
theorem i_ReadU (s : ByteArray) (w : World) (hs : s.size ≤ 1048576) (ht : Tab w) (hm : MaxL w) (he : Errs w) : Calls Tryz.prog 7 #[.string s] w (RdU w s.data.toList) := (i_ReadLayout s w hs ht hm he).mono fun _ _ h => rdU_of h
theorem s_ReadU (s : ByteArray) (w : World) (hs : s.size ≤ 1048576) : Calls Tryz.prog 9 #[.string s] w (RdU w s.data.toList) := (s_ReadLayout s w hs).mono fun _ _ h => rdU_of h
/-- reading a layout's own text -/
theorem rdU_own {L M : List Sg} {b : Bool} (h1 : b = true → layB M = true ∧ layTx L = linTx M) (h2 : b = false → M = [] ∧ ∀ M, layB M = true → layTx L ≠ linTx M) : b = layB L ∧ (b = true → M = L) := by
  have hne : ∀ M, layB M = true → linTx M ≠ [] := by
    intro M hM h
    have h3 := ((layB_iff M).1 hM).1
    have h4 : M.length ≤ 0 := by have h5 := linTx_ge M; rw [h] at h5; exact h5
    omega
  cases hL : layB L
  · have e : layTx L = [] := by unfold layTx; rw [if_neg (by rw [hL]; simp)]
    cases b
    · exact ⟨rfl, fun h => by cases h⟩
    · exact absurd (by rw [← (h1 rfl).2, e]) (hne M (h1 rfl).1)
  · have e : layTx L = linTx L := by unfold layTx; rw [if_pos hL]
    cases b
    · exact absurd e ((h2 rfl).2 L hL)
    · exact ⟨rfl, fun _ => lay_one hL (h1 rfl).1 e (h1 rfl).2⟩
end Go.Proofs.YtkhhoajoionlfaaGreatDoor
namespace Go.Proofs.YtkhhoajoionlfaaGreatDoor
open Go.RowKit Go.Shelf
set_option maxHeartbeats 4000000
set_option linter.unusedVariables false
set_option linter.unusedSimpArgs false
theorem s_Line0 (l r a b c d : Int) (h : sgB ⟨0, l, r, a, b, c, d⟩ = true) (hin : Sg.In ⟨0, l, r, a, b, c, d⟩) (w : World) :
    Calls Tryz.prog 26 #[.agg #[.int .i64 0, .int .i64 l, .int .i64 r, .int .i64 a, .int .i64 b, .int .i64 c, .int .i64 d]] w (Texts w (segTx ⟨0, l, r, a, b, c, d⟩)) := by
  have HB := Lib.hid (sg_bd _ h)
  have HIN := Lib.hid hin
  clear h hin
  have hk : kCells = #[.string (tx (kNm 0)), .string (tx (kNm 1)), .string (tx (kNm 2)), .string (tx (kNm 3)), .string (tx (kNm 4))] := rfl
  go_enter Tryz.func26, Tryz.ntmps26
  go_wp2_with fail
  go_region_with (go_at_call 41; refine (s_l03Kinds _).mono ?_; rw [hk]; rintro e w1 ⟨rfl, rfl⟩)
  all_goals
    go_wp2_with fail
    go_loopw [3, 5] (fun s i wr => ∃ k : Nat, k ≤ 6 ∧ i = .int .i64 k ∧ s = .string (tx (preTx ⟨0, l, r, a, b, c, d⟩ k)) ∧ (∀ j, j < 6 → wr.cell? ⟨w.heap.size + 1 + 1, j, none⟩ = some (.int .i64 ((Sg.mk 0 l r a b c d).at (j + 1)))) ∧ w.heap.size + 1 + 1 < wr.heap.size ∧ Later w wr) (fun _ i _ => 6 - (intOf i).toNat)
    case atStart =>
      refine ⟨0, by omega, rfl, by rw [preTx_0], ?_, by simp, (by repeat (first | (with_reducible exact Later.refl _) | (with_reducible exact Hid.out (by assumption)) | refine Later.alloc ?_ _ | refine Later.drewN ?_ _ | refine Later.drew ?_ | refine Later.trans ?_ (Hid.out (by assumption))))⟩
      intro j hj
      have h5 : j = 0 ∨ j = 1 ∨ j = 2 ∨ j = 3 ∨ j = 4 ∨ j = 5 := by omega
      rcases h5 with rfl | rfl | rfl | rfl | rfl | rfl
      all_goals
        (repeat with_reducible refine cell_drew _ _ _ ?_)
        exact cell_new _ _ _ _ _ _ (by simp) rfl
    case round =>
      obtain ⟨k, hk6, rfl, rfl, hc, hsz, hb⟩ := hrel
      have HC := Lib.hid hc; have B3 := Lib.hid hb
      clear hc hb
      by_cases h6 : k < 6
      · have h5 : k = 0 ∨ k = 1 ∨ k = 2 ∨ k = 3 ∨ k = 4 ∨ k = 5 := by omega
        clear h6 hk6
        rcases h5 with rfl | rfl | rfl | rfl | rfl | rfl
        · have c0 : _ = some (Value.int .i64 l) := HC.out 0 (by omega)
          have hz1 : (tx (preTx ⟨0, l, r, a, b, c, d⟩ 0)).size ≤ 1000 := by have := preTx_len ⟨0, l, r, a, b, c, d⟩ HIN.out 0; rw [tx_size]; omega
          have hz2 : (tx (Lib.itoa l)).size ≤ 1000 := by have := itoa_len l (HIN.out 1).1 (HIN.out 1).2; rw [tx_size]; omega
          have bd : -200000 ≤ l ∧ l ≤ 200000 := HB.out 1
          go_wp2_with fail
          refine (s_Number l (by omega) (by omega) _).mono ?_
          rintro e w4 ⟨rfl, hb4⟩
          have B4 := Lib.hid (Later.trans B3.out hb4)
          have C4 : Hid (∀ j, j < 6 → w4.cell? ⟨w.heap.size + 1 + 1, j, none⟩ = some (.int .i64 ((Sg.mk 0 l r a b c d).at (j + 1)))) := Lib.hid (fun j hj => by rw [Below.cell (p := ⟨w.heap.size + 1 + 1, j, none⟩) hb4 hsz]; exact HC.out j hj)
          have hsz4 : w.heap.size + 1 + 1 < w4.heap.size := by have := hb4.size; omega
          clear hb4 c0
          go_wp2_with fail
          go_roundw
          case rel =>
            refine ⟨1, by omega, rfl, ?_, C4.out, hsz4, B4.out⟩
            show Value.string (tx (preTx ⟨0, l, r, a, b, c, d⟩ 0) ++ tx [32] ++ tx (Lib.itoa l)) = _
            rw [tx_app, tx_app]
            exact congrArg (fun s => Value.string (tx s)) (preTx_succ ⟨0, l, r, a, b, c, d⟩ 0).symm
          case measure => simp [intOf]
        · have c1 : _ = some (Value.int .i64 r) := HC.out 1 (by omega)
          have hz1 : (tx (preTx ⟨0, l, r, a, b, c, d⟩ 1)).size ≤ 1000 := by have := preTx_len ⟨0, l, r, a, b, c, d⟩ HIN.out 1; rw [tx_size]; omega
          have hz2 : (tx (Lib.itoa r)).size ≤ 1000 := by have := itoa_len r (HIN.out 2).1 (HIN.out 2).2; rw [tx_size]; omega
          have bd : -200000 ≤ r ∧ r ≤ 200000 := HB.out 2
          go_wp2_with fail
          refine (s_Number r (by omega) (by omega) _).mono ?_
          rintro e w4 ⟨rfl, hb4⟩
          have B4 := Lib.hid (Later.trans B3.out hb4)
          have C4 : Hid (∀ j, j < 6 → w4.cell? ⟨w.heap.size + 1 + 1, j, none⟩ = some (.int .i64 ((Sg.mk 0 l r a b c d).at (j + 1)))) := Lib.hid (fun j hj => by rw [Below.cell (p := ⟨w.heap.size + 1 + 1, j, none⟩) hb4 hsz]; exact HC.out j hj)
          have hsz4 : w.heap.size + 1 + 1 < w4.heap.size := by have := hb4.size; omega
          clear hb4 c1
          go_wp2_with fail
          go_roundw
          case rel =>
            refine ⟨2, by omega, rfl, ?_, C4.out, hsz4, B4.out⟩
            show Value.string (tx (preTx ⟨0, l, r, a, b, c, d⟩ 1) ++ tx [32] ++ tx (Lib.itoa r)) = _
            rw [tx_app, tx_app]
            exact congrArg (fun s => Value.string (tx s)) (preTx_succ ⟨0, l, r, a, b, c, d⟩ 1).symm
          case measure => simp [intOf]
        · have c2 : _ = some (Value.int .i64 a) := HC.out 2 (by omega)
          have hz1 : (tx (preTx ⟨0, l, r, a, b, c, d⟩ 2)).size ≤ 1000 := by have := preTx_len ⟨0, l, r, a, b, c, d⟩ HIN.out 2; rw [tx_size]; omega
          have hz2 : (tx (Lib.itoa a)).size ≤ 1000 := by have := itoa_len a (HIN.out 3).1 (HIN.out 3).2; rw [tx_size]; omega
          have bd : -200000 ≤ a ∧ a ≤ 200000 := HB.out 3
          go_wp2_with fail
          refine (s_Number a (by omega) (by omega) _).mono ?_
          rintro e w4 ⟨rfl, hb4⟩
          have B4 := Lib.hid (Later.trans B3.out hb4)
          have C4 : Hid (∀ j, j < 6 → w4.cell? ⟨w.heap.size + 1 + 1, j, none⟩ = some (.int .i64 ((Sg.mk 0 l r a b c d).at (j + 1)))) := Lib.hid (fun j hj => by rw [Below.cell (p := ⟨w.heap.size + 1 + 1, j, none⟩) hb4 hsz]; exact HC.out j hj)
          have hsz4 : w.heap.size + 1 + 1 < w4.heap.size := by have := hb4.size; omega
          clear hb4 c2
          go_wp2_with fail
          go_roundw
          case rel =>
            refine ⟨3, by omega, rfl, ?_, C4.out, hsz4, B4.out⟩
            show Value.string (tx (preTx ⟨0, l, r, a, b, c, d⟩ 2) ++ tx [32] ++ tx (Lib.itoa a)) = _
            rw [tx_app, tx_app]
            exact congrArg (fun s => Value.string (tx s)) (preTx_succ ⟨0, l, r, a, b, c, d⟩ 2).symm
          case measure => simp [intOf]
        · have c3 : _ = some (Value.int .i64 b) := HC.out 3 (by omega)
          have hz1 : (tx (preTx ⟨0, l, r, a, b, c, d⟩ 3)).size ≤ 1000 := by have := preTx_len ⟨0, l, r, a, b, c, d⟩ HIN.out 3; rw [tx_size]; omega
          have hz2 : (tx (Lib.itoa b)).size ≤ 1000 := by have := itoa_len b (HIN.out 4).1 (HIN.out 4).2; rw [tx_size]; omega
          have bd : -200000 ≤ b ∧ b ≤ 200000 := HB.out 4
          go_wp2_with fail
          refine (s_Number b (by omega) (by omega) _).mono ?_
          rintro e w4 ⟨rfl, hb4⟩
          have B4 := Lib.hid (Later.trans B3.out hb4)
          have C4 : Hid (∀ j, j < 6 → w4.cell? ⟨w.heap.size + 1 + 1, j, none⟩ = some (.int .i64 ((Sg.mk 0 l r a b c d).at (j + 1)))) := Lib.hid (fun j hj => by rw [Below.cell (p := ⟨w.heap.size + 1 + 1, j, none⟩) hb4 hsz]; exact HC.out j hj)
          have hsz4 : w.heap.size + 1 + 1 < w4.heap.size := by have := hb4.size; omega
          clear hb4 c3
          go_wp2_with fail
          go_roundw
          case rel =>
            refine ⟨4, by omega, rfl, ?_, C4.out, hsz4, B4.out⟩
            show Value.string (tx (preTx ⟨0, l, r, a, b, c, d⟩ 3) ++ tx [32] ++ tx (Lib.itoa b)) = _
            rw [tx_app, tx_app]
            exact congrArg (fun s => Value.string (tx s)) (preTx_succ ⟨0, l, r, a, b, c, d⟩ 3).symm
          case measure => simp [intOf]
        · have c4 : _ = some (Value.int .i64 c) := HC.out 4 (by omega)
          have hz1 : (tx (preTx ⟨0, l, r, a, b, c, d⟩ 4)).size ≤ 1000 := by have := preTx_len ⟨0, l, r, a, b, c, d⟩ HIN.out 4; rw [tx_size]; omega
          have hz2 : (tx (Lib.itoa c)).size ≤ 1000 := by have := itoa_len c (HIN.out 5).1 (HIN.out 5).2; rw [tx_size]; omega
          have bd : -200000 ≤ c ∧ c ≤ 200000 := HB.out 5
          go_wp2_with fail
          refine (s_Number c (by omega) (by omega) _).mono ?_
          rintro e w4 ⟨rfl, hb4⟩
          have B4 := Lib.hid (Later.trans B3.out hb4)
          have C4 : Hid (∀ j, j < 6 → w4.cell? ⟨w.heap.size + 1 + 1, j, none⟩ = some (.int .i64 ((Sg.mk 0 l r a b c d).at (j + 1)))) := Lib.hid (fun j hj => by rw [Below.cell (p := ⟨w.heap.size + 1 + 1, j, none⟩) hb4 hsz]; exact HC.out j hj)
          have hsz4 : w.heap.size + 1 + 1 < w4.heap.size := by have := hb4.size; omega
          clear hb4 c4
          go_wp2_with fail
          go_roundw
          case rel =>
            refine ⟨5, by omega, rfl, ?_, C4.out, hsz4, B4.out⟩
            show Value.string (tx (preTx ⟨0, l, r, a, b, c, d⟩ 4) ++ tx [32] ++ tx (Lib.itoa c)) = _
            rw [tx_app, tx_app]
            exact congrArg (fun s => Value.string (tx s)) (preTx_succ ⟨0, l, r, a, b, c, d⟩ 4).symm
          case measure => simp [intOf]
        · have c5 : _ = some (Value.int .i64 d) := HC.out 5 (by omega)
          have hz1 : (tx (preTx ⟨0, l, r, a, b, c, d⟩ 5)).size ≤ 1000 := by have := preTx_len ⟨0, l, r, a, b, c, d⟩ HIN.out 5; rw [tx_size]; omega
          have hz2 : (tx (Lib.itoa d)).size ≤ 1000 := by have := itoa_len d (HIN.out 6).1 (HIN.out 6).2; rw [tx_size]; omega
          have bd : -200000 ≤ d ∧ d ≤ 200000 := HB.out 6
          go_wp2_with fail
          refine (s_Number d (by omega) (by omega) _).mono ?_
          rintro e w4 ⟨rfl, hb4⟩
          have B4 := Lib.hid (Later.trans B3.out hb4)
          have C4 : Hid (∀ j, j < 6 → w4.cell? ⟨w.heap.size + 1 + 1, j, none⟩ = some (.int .i64 ((Sg.mk 0 l r a b c d).at (j + 1)))) := Lib.hid (fun j hj => by rw [Below.cell (p := ⟨w.heap.size + 1 + 1, j, none⟩) hb4 hsz]; exact HC.out j hj)
          have hsz4 : w.heap.size + 1 + 1 < w4.heap.size := by have := hb4.size; omega
          clear hb4 c5
          go_wp2_with fail
          go_roundw
          case rel =>
            refine ⟨6, by omega, rfl, ?_, C4.out, hsz4, B4.out⟩
            show Value.string (tx (preTx ⟨0, l, r, a, b, c, d⟩ 5) ++ tx [32] ++ tx (Lib.itoa d)) = _
            rw [tx_app, tx_app]
            exact congrArg (fun s => Value.string (tx s)) (preTx_succ ⟨0, l, r, a, b, c, d⟩ 5).symm
          case measure => simp [intOf]
      · obtain rfl : k = 6 := by omega
        go_wp2_with fail
        go_ret
        exact ⟨congrArg (fun s => Ending.returned (.string (tx s))) (preTx_6 ⟨0, l, r, a, b, c, d⟩), B3.out⟩
theorem s_Line1 (l r a b c d : Int) (h : sgB ⟨1, l, r, a, b, c, d⟩ = true) (hin : Sg.In ⟨1, l, r, a, b, c, d⟩) (w : World) :
    Calls Tryz.prog 26 #[.agg #[.int .i64 1, .int .i64 l, .int .i64 r, .int .i64 a, .int .i64 b, .int .i64 c, .int .i64 d]] w (Texts w (segTx ⟨1, l, r, a, b, c, d⟩)) := by
  have HB := Lib.hid (sg_bd _ h)
  have HIN := Lib.hid hin
  clear h hin
  have hk : kCells = #[.string (tx (kNm 0)), .string (tx (kNm 1)), .string (tx (kNm 2)), .string (tx (kNm 3)), .string (tx (kNm 4))] := rfl
  go_enter Tryz.func26, Tryz.ntmps26
  go_wp2_with fail
  go_region_with (go_at_call 41; refine (s_l03Kinds _).mono ?_; rw [hk]; rintro e w1 ⟨rfl, rfl⟩)
  all_goals
    go_wp2_with fail
    go_loopw [3, 5] (fun s i wr => ∃ k : Nat, k ≤ 6 ∧ i = .int .i64 k ∧ s = .string (tx (preTx ⟨1, l, r, a, b, c, d⟩ k)) ∧ (∀ j, j < 6 → wr.cell? ⟨w.heap.size + 1 + 1, j, none⟩ = some (.int .i64 ((Sg.mk 1 l r a b c d).at (j + 1)))) ∧ w.heap.size + 1 + 1 < wr.heap.size ∧ Later w wr) (fun _ i _ => 6 - (intOf i).toNat)
    case atStart =>
      refine ⟨0, by omega, rfl, by rw [preTx_0], ?_, by simp, (by repeat (first | (with_reducible exact Later.refl _) | (with_reducible exact Hid.out (by assumption)) | refine Later.alloc ?_ _ | refine Later.drewN ?_ _ | refine Later.drew ?_ | refine Later.trans ?_ (Hid.out (by assumption))))⟩
      intro j hj
      have h5 : j = 0 ∨ j = 1 ∨ j = 2 ∨ j = 3 ∨ j = 4 ∨ j = 5 := by omega
      rcases h5 with rfl | rfl | rfl | rfl | rfl | rfl
      all_goals
        (repeat with_reducible refine cell_drew _ _ _ ?_)
        exact cell_new _ _ _ _ _ _ (by simp) rfl
    case round =>
      obtain ⟨k, hk6, rfl, rfl, hc, hsz, hb⟩ := hrel
      have HC := Lib.hid hc; have B3 := Lib.hid hb
      clear hc hb
      by_cases h6 : k < 6
      · have h5 : k = 0 ∨ k = 1 ∨ k = 2 ∨ k = 3 ∨ k = 4 ∨ k = 5 := by omega
        clear h6 hk6
        rcases h5 with rfl | rfl | rfl | rfl | rfl | rfl
        · have c0 : _ = some (Value.int .i64 l) := HC.out 0 (by omega)
          have hz1 : (tx (preTx ⟨1, l, r, a, b, c, d⟩ 0)).size ≤ 1000 := by have := preTx_len ⟨1, l, r, a, b, c, d⟩ HIN.out 0; rw [tx_size]; omega
          have hz2 : (tx (Lib.itoa l)).size ≤ 1000 := by have := itoa_len l (HIN.out 1).1 (HIN.out 1).2; rw [tx_size]; omega
          have bd : -200000 ≤ l ∧ l ≤ 200000 := HB.out 1
          go_wp2_with fail
          refine (s_Number l (by omega) (by omega) _).mono ?_
          rintro e w4 ⟨rfl, hb4⟩
          have B4 := Lib.hid (Later.trans B3.out hb4)
          have C4 : Hid (∀ j, j < 6 → w4.cell? ⟨w.heap.size + 1 + 1, j, none⟩ = some (.int .i64 ((Sg.mk 1 l r a b c d).at (j + 1)))) := Lib.hid (fun j hj => by rw [Below.cell (p := ⟨w.heap.size + 1 + 1, j, none⟩) hb4 hsz]; exact HC.out j hj)
          have hsz4 : w.heap.size + 1 + 1 < w4.heap.size := by have := hb4.size; omega
          clear hb4 c0
          go_wp2_with fail
          go_roundw
          case rel =>
            refine ⟨1, by omega, rfl, ?_, C4.out, hsz4, B4.out⟩
            show Value.string (tx (preTx ⟨1, l, r, a, b, c, d⟩ 0) ++ tx [32] ++ tx (Lib.itoa l)) = _
            rw [tx_app, tx_app]
            exact congrArg (fun s => Value.string (tx s)) (preTx_succ ⟨1, l, r, a, b, c, d⟩ 0).symm
          case measure => simp [intOf]
        · have c1 : _ = some (Value.int .i64 r) := HC.out 1 (by omega)
          have hz1 : (tx (preTx ⟨1, l, r, a, b, c, d⟩ 1)).size ≤ 1000 := by have := preTx_len ⟨1, l, r, a, b, c, d⟩ HIN.out 1; rw [tx_size]; omega
          have hz2 : (tx (Lib.itoa r)).size ≤ 1000 := by have := itoa_len r (HIN.out 2).1 (HIN.out 2).2; rw [tx_size]; omega
          have bd : -200000 ≤ r ∧ r ≤ 200000 := HB.out 2
          go_wp2_with fail
          refine (s_Number r (by omega) (by omega) _).mono ?_
          rintro e w4 ⟨rfl, hb4⟩
          have B4 := Lib.hid (Later.trans B3.out hb4)
          have C4 : Hid (∀ j, j < 6 → w4.cell? ⟨w.heap.size + 1 + 1, j, none⟩ = some (.int .i64 ((Sg.mk 1 l r a b c d).at (j + 1)))) := Lib.hid (fun j hj => by rw [Below.cell (p := ⟨w.heap.size + 1 + 1, j, none⟩) hb4 hsz]; exact HC.out j hj)
          have hsz4 : w.heap.size + 1 + 1 < w4.heap.size := by have := hb4.size; omega
          clear hb4 c1
          go_wp2_with fail
          go_roundw
          case rel =>
            refine ⟨2, by omega, rfl, ?_, C4.out, hsz4, B4.out⟩
            show Value.string (tx (preTx ⟨1, l, r, a, b, c, d⟩ 1) ++ tx [32] ++ tx (Lib.itoa r)) = _
            rw [tx_app, tx_app]
            exact congrArg (fun s => Value.string (tx s)) (preTx_succ ⟨1, l, r, a, b, c, d⟩ 1).symm
          case measure => simp [intOf]
        · have c2 : _ = some (Value.int .i64 a) := HC.out 2 (by omega)
          have hz1 : (tx (preTx ⟨1, l, r, a, b, c, d⟩ 2)).size ≤ 1000 := by have := preTx_len ⟨1, l, r, a, b, c, d⟩ HIN.out 2; rw [tx_size]; omega
          have hz2 : (tx (Lib.itoa a)).size ≤ 1000 := by have := itoa_len a (HIN.out 3).1 (HIN.out 3).2; rw [tx_size]; omega
          have bd : -200000 ≤ a ∧ a ≤ 200000 := HB.out 3
          go_wp2_with fail
          refine (s_Number a (by omega) (by omega) _).mono ?_
          rintro e w4 ⟨rfl, hb4⟩
          have B4 := Lib.hid (Later.trans B3.out hb4)
          have C4 : Hid (∀ j, j < 6 → w4.cell? ⟨w.heap.size + 1 + 1, j, none⟩ = some (.int .i64 ((Sg.mk 1 l r a b c d).at (j + 1)))) := Lib.hid (fun j hj => by rw [Below.cell (p := ⟨w.heap.size + 1 + 1, j, none⟩) hb4 hsz]; exact HC.out j hj)
          have hsz4 : w.heap.size + 1 + 1 < w4.heap.size := by have := hb4.size; omega
          clear hb4 c2
          go_wp2_with fail
          go_roundw
          case rel =>
            refine ⟨3, by omega, rfl, ?_, C4.out, hsz4, B4.out⟩
            show Value.string (tx (preTx ⟨1, l, r, a, b, c, d⟩ 2) ++ tx [32] ++ tx (Lib.itoa a)) = _
            rw [tx_app, tx_app]
            exact congrArg (fun s => Value.string (tx s)) (preTx_succ ⟨1, l, r, a, b, c, d⟩ 2).symm
          case measure => simp [intOf]
        · have c3 : _ = some (Value.int .i64 b) := HC.out 3 (by omega)
          have hz1 : (tx (preTx ⟨1, l, r, a, b, c, d⟩ 3)).size ≤ 1000 := by have := preTx_len ⟨1, l, r, a, b, c, d⟩ HIN.out 3; rw [tx_size]; omega
          have hz2 : (tx (Lib.itoa b)).size ≤ 1000 := by have := itoa_len b (HIN.out 4).1 (HIN.out 4).2; rw [tx_size]; omega
          have bd : -200000 ≤ b ∧ b ≤ 200000 := HB.out 4
          go_wp2_with fail
          refine (s_Number b (by omega) (by omega) _).mono ?_
          rintro e w4 ⟨rfl, hb4⟩
          have B4 := Lib.hid (Later.trans B3.out hb4)
          have C4 : Hid (∀ j, j < 6 → w4.cell? ⟨w.heap.size + 1 + 1, j, none⟩ = some (.int .i64 ((Sg.mk 1 l r a b c d).at (j + 1)))) := Lib.hid (fun j hj => by rw [Below.cell (p := ⟨w.heap.size + 1 + 1, j, none⟩) hb4 hsz]; exact HC.out j hj)
          have hsz4 : w.heap.size + 1 + 1 < w4.heap.size := by have := hb4.size; omega
          clear hb4 c3
          go_wp2_with fail
          go_roundw
          case rel =>
            refine ⟨4, by omega, rfl, ?_, C4.out, hsz4, B4.out⟩
            show Value.string (tx (preTx ⟨1, l, r, a, b, c, d⟩ 3) ++ tx [32] ++ tx (Lib.itoa b)) = _
            rw [tx_app, tx_app]
            exact congrArg (fun s => Value.string (tx s)) (preTx_succ ⟨1, l, r, a, b, c, d⟩ 3).symm
          case measure => simp [intOf]
        · have c4 : _ = some (Value.int .i64 c) := HC.out 4 (by omega)
          have hz1 : (tx (preTx ⟨1, l, r, a, b, c, d⟩ 4)).size ≤ 1000 := by have := preTx_len ⟨1, l, r, a, b, c, d⟩ HIN.out 4; rw [tx_size]; omega
          have hz2 : (tx (Lib.itoa c)).size ≤ 1000 := by have := itoa_len c (HIN.out 5).1 (HIN.out 5).2; rw [tx_size]; omega
          have bd : -200000 ≤ c ∧ c ≤ 200000 := HB.out 5
          go_wp2_with fail
          refine (s_Number c (by omega) (by omega) _).mono ?_
          rintro e w4 ⟨rfl, hb4⟩
          have B4 := Lib.hid (Later.trans B3.out hb4)
          have C4 : Hid (∀ j, j < 6 → w4.cell? ⟨w.heap.size + 1 + 1, j, none⟩ = some (.int .i64 ((Sg.mk 1 l r a b c d).at (j + 1)))) := Lib.hid (fun j hj => by rw [Below.cell (p := ⟨w.heap.size + 1 + 1, j, none⟩) hb4 hsz]; exact HC.out j hj)
          have hsz4 : w.heap.size + 1 + 1 < w4.heap.size := by have := hb4.size; omega
          clear hb4 c4
          go_wp2_with fail
          go_roundw
          case rel =>
            refine ⟨5, by omega, rfl, ?_, C4.out, hsz4, B4.out⟩
            show Value.string (tx (preTx ⟨1, l, r, a, b, c, d⟩ 4) ++ tx [32] ++ tx (Lib.itoa c)) = _
            rw [tx_app, tx_app]
            exact congrArg (fun s => Value.string (tx s)) (preTx_succ ⟨1, l, r, a, b, c, d⟩ 4).symm
          case measure => simp [intOf]
        · have c5 : _ = some (Value.int .i64 d) := HC.out 5 (by omega)
          have hz1 : (tx (preTx ⟨1, l, r, a, b, c, d⟩ 5)).size ≤ 1000 := by have := preTx_len ⟨1, l, r, a, b, c, d⟩ HIN.out 5; rw [tx_size]; omega
          have hz2 : (tx (Lib.itoa d)).size ≤ 1000 := by have := itoa_len d (HIN.out 6).1 (HIN.out 6).2; rw [tx_size]; omega
          have bd : -200000 ≤ d ∧ d ≤ 200000 := HB.out 6
          go_wp2_with fail
          refine (s_Number d (by omega) (by omega) _).mono ?_
          rintro e w4 ⟨rfl, hb4⟩
          have B4 := Lib.hid (Later.trans B3.out hb4)
          have C4 : Hid (∀ j, j < 6 → w4.cell? ⟨w.heap.size + 1 + 1, j, none⟩ = some (.int .i64 ((Sg.mk 1 l r a b c d).at (j + 1)))) := Lib.hid (fun j hj => by rw [Below.cell (p := ⟨w.heap.size + 1 + 1, j, none⟩) hb4 hsz]; exact HC.out j hj)
          have hsz4 : w.heap.size + 1 + 1 < w4.heap.size := by have := hb4.size; omega
          clear hb4 c5
          go_wp2_with fail
          go_roundw
          case rel =>
            refine ⟨6, by omega, rfl, ?_, C4.out, hsz4, B4.out⟩
            show Value.string (tx (preTx ⟨1, l, r, a, b, c, d⟩ 5) ++ tx [32] ++ tx (Lib.itoa d)) = _
            rw [tx_app, tx_app]
            exact congrArg (fun s => Value.string (tx s)) (preTx_succ ⟨1, l, r, a, b, c, d⟩ 5).symm
          case measure => simp [intOf]
      · obtain rfl : k = 6 := by omega
        go_wp2_with fail
        go_ret
        exact ⟨congrArg (fun s => Ending.returned (.string (tx s))) (preTx_6 ⟨1, l, r, a, b, c, d⟩), B3.out⟩
theorem s_Line2 (l r a b c d : Int) (h : sgB ⟨2, l, r, a, b, c, d⟩ = true) (hin : Sg.In ⟨2, l, r, a, b, c, d⟩) (w : World) :
    Calls Tryz.prog 26 #[.agg #[.int .i64 2, .int .i64 l, .int .i64 r, .int .i64 a, .int .i64 b, .int .i64 c, .int .i64 d]] w (Texts w (segTx ⟨2, l, r, a, b, c, d⟩)) := by
  have HB := Lib.hid (sg_bd _ h)
  have HIN := Lib.hid hin
  clear h hin
  have hk : kCells = #[.string (tx (kNm 0)), .string (tx (kNm 1)), .string (tx (kNm 2)), .string (tx (kNm 3)), .string (tx (kNm 4))] := rfl
  go_enter Tryz.func26, Tryz.ntmps26
  go_wp2_with fail
  go_region_with (go_at_call 41; refine (s_l03Kinds _).mono ?_; rw [hk]; rintro e w1 ⟨rfl, rfl⟩)
  all_goals
    go_wp2_with fail
    go_loopw [3, 5] (fun s i wr => ∃ k : Nat, k ≤ 6 ∧ i = .int .i64 k ∧ s = .string (tx (preTx ⟨2, l, r, a, b, c, d⟩ k)) ∧ (∀ j, j < 6 → wr.cell? ⟨w.heap.size + 1 + 1, j, none⟩ = some (.int .i64 ((Sg.mk 2 l r a b c d).at (j + 1)))) ∧ w.heap.size + 1 + 1 < wr.heap.size ∧ Later w wr) (fun _ i _ => 6 - (intOf i).toNat)
    case atStart =>
      refine ⟨0, by omega, rfl, by rw [preTx_0], ?_, by simp, (by repeat (first | (with_reducible exact Later.refl _) | (with_reducible exact Hid.out (by assumption)) | refine Later.alloc ?_ _ | refine Later.drewN ?_ _ | refine Later.drew ?_ | refine Later.trans ?_ (Hid.out (by assumption))))⟩
      intro j hj
      have h5 : j = 0 ∨ j = 1 ∨ j = 2 ∨ j = 3 ∨ j = 4 ∨ j = 5 := by omega
      rcases h5 with rfl | rfl | rfl | rfl | rfl | rfl
      all_goals
        (repeat with_reducible refine cell_drew _ _ _ ?_)
        exact cell_new _ _ _ _ _ _ (by simp) rfl
    case round =>
      obtain ⟨k, hk6, rfl, rfl, hc, hsz, hb⟩ := hrel
      have HC := Lib.hid hc; have B3 := Lib.hid hb
      clear hc hb
      by_cases h6 : k < 6
      · have h5 : k = 0 ∨ k = 1 ∨ k = 2 ∨ k = 3 ∨ k = 4 ∨ k = 5 := by omega
        clear h6 hk6
        rcases h5 with rfl | rfl | rfl | rfl | rfl | rfl
        · have c0 : _ = some (Value.int .i64 l) := HC.out 0 (by omega)
          have hz1 : (tx (preTx ⟨2, l, r, a, b, c, d⟩ 0)).size ≤ 1000 := by have := preTx_len ⟨2, l, r, a, b, c, d⟩ HIN.out 0; rw [tx_size]; omega
          have hz2 : (tx (Lib.itoa l)).size ≤ 1000 := by have := itoa_len l (HIN.out 1).1 (HIN.out 1).2; rw [tx_size]; omega
          have bd : -200000 ≤ l ∧ l ≤ 200000 := HB.out 1
          go_wp2_with fail
          refine (s_Number l (by omega) (by omega) _).mono ?_
          rintro e w4 ⟨rfl, hb4⟩
          have B4 := Lib.hid (Later.trans B3.out hb4)
          have C4 : Hid (∀ j, j < 6 → w4.cell? ⟨w.heap.size + 1 + 1, j, none⟩ = some (.int .i64 ((Sg.mk 2 l r a b c d).at (j + 1)))) := Lib.hid (fun j hj => by rw [Below.cell (p := ⟨w.heap.size + 1 + 1, j, none⟩) hb4 hsz]; exact HC.out j hj)
          have hsz4 : w.heap.size + 1 + 1 < w4.heap.size := by have := hb4.size; omega
          clear hb4 c0
          go_wp2_with fail
          go_roundw
          case rel =>
            refine ⟨1, by omega, rfl, ?_, C4.out, hsz4, B4.out⟩
            show Value.string (tx (preTx ⟨2, l, r, a, b, c, d⟩ 0) ++ tx [32] ++ tx (Lib.itoa l)) = _
            rw [tx_app, tx_app]
            exact congrArg (fun s => Value.string (tx s)) (preTx_succ ⟨2, l, r, a, b, c, d⟩ 0).symm
          case measure => simp [intOf]
        · have c1 : _ = some (Value.int .i64 r) := HC.out 1 (by omega)
          have hz1 : (tx (preTx ⟨2, l, r, a, b, c, d⟩ 1)).size ≤ 1000 := by have := preTx_len ⟨2, l, r, a, b, c, d⟩ HIN.out 1; rw [tx_size]; omega
          have hz2 : (tx (Lib.itoa r)).size ≤ 1000 := by have := itoa_len r (HIN.out 2).1 (HIN.out 2).2; rw [tx_size]; omega
          have bd : -200000 ≤ r ∧ r ≤ 200000 := HB.out 2
          go_wp2_with fail
          refine (s_Number r (by omega) (by omega) _).mono ?_
          rintro e w4 ⟨rfl, hb4⟩
          have B4 := Lib.hid (Later.trans B3.out hb4)
          have C4 : Hid (∀ j, j < 6 → w4.cell? ⟨w.heap.size + 1 + 1, j, none⟩ = some (.int .i64 ((Sg.mk 2 l r a b c d).at (j + 1)))) := Lib.hid (fun j hj => by rw [Below.cell (p := ⟨w.heap.size + 1 + 1, j, none⟩) hb4 hsz]; exact HC.out j hj)
          have hsz4 : w.heap.size + 1 + 1 < w4.heap.size := by have := hb4.size; omega
          clear hb4 c1
          go_wp2_with fail
          go_roundw
          case rel =>
            refine ⟨2, by omega, rfl, ?_, C4.out, hsz4, B4.out⟩
            show Value.string (tx (preTx ⟨2, l, r, a, b, c, d⟩ 1) ++ tx [32] ++ tx (Lib.itoa r)) = _
            rw [tx_app, tx_app]
            exact congrArg (fun s => Value.string (tx s)) (preTx_succ ⟨2, l, r, a, b, c, d⟩ 1).symm
          case measure => simp [intOf]
        · have c2 : _ = some (Value.int .i64 a) := HC.out 2 (by omega)
          have hz1 : (tx (preTx ⟨2, l, r, a, b, c, d⟩ 2)).size ≤ 1000 := by have := preTx_len ⟨2, l, r, a, b, c, d⟩ HIN.out 2; rw [tx_size]; omega
          have hz2 : (tx (Lib.itoa a)).size ≤ 1000 := by have := itoa_len a (HIN.out 3).1 (HIN.out 3).2; rw [tx_size]; omega
          have bd : -200000 ≤ a ∧ a ≤ 200000 := HB.out 3
          go_wp2_with fail
          refine (s_Number a (by omega) (by omega) _).mono ?_
          rintro e w4 ⟨rfl, hb4⟩
          have B4 := Lib.hid (Later.trans B3.out hb4)
          have C4 : Hid (∀ j, j < 6 → w4.cell? ⟨w.heap.size + 1 + 1, j, none⟩ = some (.int .i64 ((Sg.mk 2 l r a b c d).at (j + 1)))) := Lib.hid (fun j hj => by rw [Below.cell (p := ⟨w.heap.size + 1 + 1, j, none⟩) hb4 hsz]; exact HC.out j hj)
          have hsz4 : w.heap.size + 1 + 1 < w4.heap.size := by have := hb4.size; omega
          clear hb4 c2
          go_wp2_with fail
          go_roundw
          case rel =>
            refine ⟨3, by omega, rfl, ?_, C4.out, hsz4, B4.out⟩
            show Value.string (tx (preTx ⟨2, l, r, a, b, c, d⟩ 2) ++ tx [32] ++ tx (Lib.itoa a)) = _
            rw [tx_app, tx_app]
            exact congrArg (fun s => Value.string (tx s)) (preTx_succ ⟨2, l, r, a, b, c, d⟩ 2).symm
          case measure => simp [intOf]
        · have c3 : _ = some (Value.int .i64 b) := HC.out 3 (by omega)
          have hz1 : (tx (preTx ⟨2, l, r, a, b, c, d⟩ 3)).size ≤ 1000 := by have := preTx_len ⟨2, l, r, a, b, c, d⟩ HIN.out 3; rw [tx_size]; omega
          have hz2 : (tx (Lib.itoa b)).size ≤ 1000 := by have := itoa_len b (HIN.out 4).1 (HIN.out 4).2; rw [tx_size]; omega
          have bd : -200000 ≤ b ∧ b ≤ 200000 := HB.out 4
          go_wp2_with fail
          refine (s_Number b (by omega) (by omega) _).mono ?_
          rintro e w4 ⟨rfl, hb4⟩
          have B4 := Lib.hid (Later.trans B3.out hb4)
          have C4 : Hid (∀ j, j < 6 → w4.cell? ⟨w.heap.size + 1 + 1, j, none⟩ = some (.int .i64 ((Sg.mk 2 l r a b c d).at (j + 1)))) := Lib.hid (fun j hj => by rw [Below.cell (p := ⟨w.heap.size + 1 + 1, j, none⟩) hb4 hsz]; exact HC.out j hj)
          have hsz4 : w.heap.size + 1 + 1 < w4.heap.size := by have := hb4.size; omega
          clear hb4 c3
          go_wp2_with fail
          go_roundw
          case rel =>
            refine ⟨4, by omega, rfl, ?_, C4.out, hsz4, B4.out⟩
            show Value.string (tx (preTx ⟨2, l, r, a, b, c, d⟩ 3) ++ tx [32] ++ tx (Lib.itoa b)) = _
            rw [tx_app, tx_app]
            exact congrArg (fun s => Value.string (tx s)) (preTx_succ ⟨2, l, r, a, b, c, d⟩ 3).symm
          case measure => simp [intOf]
        · have c4 : _ = some (Value.int .i64 c) := HC.out 4 (by omega)
          have hz1 : (tx (preTx ⟨2, l, r, a, b, c, d⟩ 4)).size ≤ 1000 := by have := preTx_len ⟨2, l, r, a, b, c, d⟩ HIN.out 4; rw [tx_size]; omega
          have hz2 : (tx (Lib.itoa c)).size ≤ 1000 := by have := itoa_len c (HIN.out 5).1 (HIN.out 5).2; rw [tx_size]; omega
          have bd : -200000 ≤ c ∧ c ≤ 200000 := HB.out 5
          go_wp2_with fail
          refine (s_Number c (by omega) (by omega) _).mono ?_
          rintro e w4 ⟨rfl, hb4⟩
          have B4 := Lib.hid (Later.trans B3.out hb4)
          have C4 : Hid (∀ j, j < 6 → w4.cell? ⟨w.heap.size + 1 + 1, j, none⟩ = some (.int .i64 ((Sg.mk 2 l r a b c d).at (j + 1)))) := Lib.hid (fun j hj => by rw [Below.cell (p := ⟨w.heap.size + 1 + 1, j, none⟩) hb4 hsz]; exact HC.out j hj)
          have hsz4 : w.heap.size + 1 + 1 < w4.heap.size := by have := hb4.size; omega
          clear hb4 c4
          go_wp2_with fail
          go_roundw
          case rel =>
            refine ⟨5, by omega, rfl, ?_, C4.out, hsz4, B4.out⟩
            show Value.string (tx (preTx ⟨2, l, r, a, b, c, d⟩ 4) ++ tx [32] ++ tx (Lib.itoa c)) = _
            rw [tx_app, tx_app]
            exact congrArg (fun s => Value.string (tx s)) (preTx_succ ⟨2, l, r, a, b, c, d⟩ 4).symm
          case measure => simp [intOf]
        · have c5 : _ = some (Value.int .i64 d) := HC.out 5 (by omega)
          have hz1 : (tx (preTx ⟨2, l, r, a, b, c, d⟩ 5)).size ≤ 1000 := by have := preTx_len ⟨2, l, r, a, b, c, d⟩ HIN.out 5; rw [tx_size]; omega
          have hz2 : (tx (Lib.itoa d)).size ≤ 1000 := by have := itoa_len d (HIN.out 6).1 (HIN.out 6).2; rw [tx_size]; omega
          have bd : -200000 ≤ d ∧ d ≤ 200000 := HB.out 6
          go_wp2_with fail
          refine (s_Number d (by omega) (by omega) _).mono ?_
          rintro e w4 ⟨rfl, hb4⟩
          have B4 := Lib.hid (Later.trans B3.out hb4)
          have C4 : Hid (∀ j, j < 6 → w4.cell? ⟨w.heap.size + 1 + 1, j, none⟩ = some (.int .i64 ((Sg.mk 2 l r a b c d).at (j + 1)))) := Lib.hid (fun j hj => by rw [Below.cell (p := ⟨w.heap.size + 1 + 1, j, none⟩) hb4 hsz]; exact HC.out j hj)
          have hsz4 : w.heap.size + 1 + 1 < w4.heap.size := by have := hb4.size; omega
          clear hb4 c5
          go_wp2_with fail
          go_roundw
          case rel =>
            refine ⟨6, by omega, rfl, ?_, C4.out, hsz4, B4.out⟩
            show Value.string (tx (preTx ⟨2, l, r, a, b, c, d⟩ 5) ++ tx [32] ++ tx (Lib.itoa d)) = _
            rw [tx_app, tx_app]
            exact congrArg (fun s => Value.string (tx s)) (preTx_succ ⟨2, l, r, a, b, c, d⟩ 5).symm
          case measure => simp [intOf]
      · obtain rfl : k = 6 := by omega
        go_wp2_with fail
        go_ret
        exact ⟨congrArg (fun s => Ending.returned (.string (tx s))) (preTx_6 ⟨2, l, r, a, b, c, d⟩), B3.out⟩
theorem s_Line3 (l r a b c d : Int) (h : sgB ⟨3, l, r, a, b, c, d⟩ = true) (hin : Sg.In ⟨3, l, r, a, b, c, d⟩) (w : World) :
    Calls Tryz.prog 26 #[.agg #[.int .i64 3, .int .i64 l, .int .i64 r, .int .i64 a, .int .i64 b, .int .i64 c, .int .i64 d]] w (Texts w (segTx ⟨3, l, r, a, b, c, d⟩)) := by
  have HB := Lib.hid (sg_bd _ h)
  have HIN := Lib.hid hin
  clear h hin
  have hk : kCells = #[.string (tx (kNm 0)), .string (tx (kNm 1)), .string (tx (kNm 2)), .string (tx (kNm 3)), .string (tx (kNm 4))] := rfl
  go_enter Tryz.func26, Tryz.ntmps26
  go_wp2_with fail
  go_region_with (go_at_call 41; refine (s_l03Kinds _).mono ?_; rw [hk]; rintro e w1 ⟨rfl, rfl⟩)
  all_goals
    go_wp2_with fail
    go_loopw [3, 5] (fun s i wr => ∃ k : Nat, k ≤ 6 ∧ i = .int .i64 k ∧ s = .string (tx (preTx ⟨3, l, r, a, b, c, d⟩ k)) ∧ (∀ j, j < 6 → wr.cell? ⟨w.heap.size + 1 + 1, j, none⟩ = some (.int .i64 ((Sg.mk 3 l r a b c d).at (j + 1)))) ∧ w.heap.size + 1 + 1 < wr.heap.size ∧ Later w wr) (fun _ i _ => 6 - (intOf i).toNat)
    case atStart =>
      refine ⟨0, by omega, rfl, by rw [preTx_0], ?_, by simp, (by repeat (first | (with_reducible exact Later.refl _) | (with_reducible exact Hid.out (by assumption)) | refine Later.alloc ?_ _ | refine Later.drewN ?_ _ | refine Later.drew ?_ | refine Later.trans ?_ (Hid.out (by assumption))))⟩
      intro j hj
      have h5 : j = 0 ∨ j = 1 ∨ j = 2 ∨ j = 3 ∨ j = 4 ∨ j = 5 := by omega
      rcases h5 with rfl | rfl | rfl | rfl | rfl | rfl
      all_goals
        (repeat with_reducible refine cell_drew _ _ _ ?_)
        exact cell_new _ _ _ _ _ _ (by simp) rfl
    case round =>
      obtain ⟨k, hk6, rfl, rfl, hc, hsz, hb⟩ := hrel
      have HC := Lib.hid hc; have B3 := Lib.hid hb
      clear hc hb
      by_cases h6 : k < 6
      · have h5 : k = 0 ∨ k = 1 ∨ k = 2 ∨ k = 3 ∨ k = 4 ∨ k = 5 := by omega
        clear h6 hk6
        rcases h5 with rfl | rfl | rfl | rfl | rfl | rfl
        · have c0 : _ = some (Value.int .i64 l) := HC.out 0 (by omega)
          have hz1 : (tx (preTx ⟨3, l, r, a, b, c, d⟩ 0)).size ≤ 1000 := by have := preTx_len ⟨3, l, r, a, b, c, d⟩ HIN.out 0; rw [tx_size]; omega
          have hz2 : (tx (Lib.itoa l)).size ≤ 1000 := by have := itoa_len l (HIN.out 1).1 (HIN.out 1).2; rw [tx_size]; omega
          have bd : -200000 ≤ l ∧ l ≤ 200000 := HB.out 1
          go_wp2_with fail
          refine (s_Number l (by omega) (by omega) _).mono ?_
          rintro e w4 ⟨rfl, hb4⟩
          have B4 := Lib.hid (Later.trans B3.out hb4)
          have C4 : Hid (∀ j, j < 6 → w4.cell? ⟨w.heap.size + 1 + 1, j, none⟩ = some (.int .i64 ((Sg.mk 3 l r a b c d).at (j + 1)))) := Lib.hid (fun j hj => by rw [Below.cell (p := ⟨w.heap.size + 1 + 1, j, none⟩) hb4 hsz]; exact HC.out j hj)
          have hsz4 : w.heap.size + 1 + 1 < w4.heap.size := by have := hb4.size; omega
          clear hb4 c0
          go_wp2_with fail
          go_roundw
          case rel =>
            refine ⟨1, by omega, rfl, ?_, C4.out, hsz4, B4.out⟩
            show Value.string (tx (preTx ⟨3, l, r, a, b, c, d⟩ 0) ++ tx [32] ++ tx (Lib.itoa l)) = _
            rw [tx_app, tx_app]
            exact congrArg (fun s => Value.string (tx s)) (preTx_succ ⟨3, l, r, a, b, c, d⟩ 0).symm
          case measure => simp [intOf]
        · have c1 : _ = some (Value.int .i64 r) := HC.out 1 (by omega)
          have hz1 : (tx (preTx ⟨3, l, r, a, b, c, d⟩ 1)).size ≤ 1000 := by have := preTx_len ⟨3, l, r, a, b, c, d⟩ HIN.out 1; rw [tx_size]; omega
          have hz2 : (tx (Lib.itoa r)).size ≤ 1000 := by have := itoa_len r (HIN.out 2).1 (HIN.out 2).2; rw [tx_size]; omega
          have bd : -200000 ≤ r ∧ r ≤ 200000 := HB.out 2
          go_wp2_with fail
          refine (s_Number r (by omega) (by omega) _).mono ?_
          rintro e w4 ⟨rfl, hb4⟩
          have B4 := Lib.hid (Later.trans B3.out hb4)
          have C4 : Hid (∀ j, j < 6 → w4.cell? ⟨w.heap.size + 1 + 1, j, none⟩ = some (.int .i64 ((Sg.mk 3 l r a b c d).at (j + 1)))) := Lib.hid (fun j hj => by rw [Below.cell (p := ⟨w.heap.size + 1 + 1, j, none⟩) hb4 hsz]; exact HC.out j hj)
          have hsz4 : w.heap.size + 1 + 1 < w4.heap.size := by have := hb4.size; omega
          clear hb4 c1
          go_wp2_with fail
          go_roundw
          case rel =>
            refine ⟨2, by omega, rfl, ?_, C4.out, hsz4, B4.out⟩
            show Value.string (tx (preTx ⟨3, l, r, a, b, c, d⟩ 1) ++ tx [32] ++ tx (Lib.itoa r)) = _
            rw [tx_app, tx_app]
            exact congrArg (fun s => Value.string (tx s)) (preTx_succ ⟨3, l, r, a, b, c, d⟩ 1).symm
          case measure => simp [intOf]
        · have c2 : _ = some (Value.int .i64 a) := HC.out 2 (by omega)
          have hz1 : (tx (preTx ⟨3, l, r, a, b, c, d⟩ 2)).size ≤ 1000 := by have := preTx_len ⟨3, l, r, a, b, c, d⟩ HIN.out 2; rw [tx_size]; omega
          have hz2 : (tx (Lib.itoa a)).size ≤ 1000 := by have := itoa_len a (HIN.out 3).1 (HIN.out 3).2; rw [tx_size]; omega
          have bd : -200000 ≤ a ∧ a ≤ 200000 := HB.out 3
          go_wp2_with fail
          refine (s_Number a (by omega) (by omega) _).mono ?_
          rintro e w4 ⟨rfl, hb4⟩
          have B4 := Lib.hid (Later.trans B3.out hb4)
          have C4 : Hid (∀ j, j < 6 → w4.cell? ⟨w.heap.size + 1 + 1, j, none⟩ = some (.int .i64 ((Sg.mk 3 l r a b c d).at (j + 1)))) := Lib.hid (fun j hj => by rw [Below.cell (p := ⟨w.heap.size + 1 + 1, j, none⟩) hb4 hsz]; exact HC.out j hj)
          have hsz4 : w.heap.size + 1 + 1 < w4.heap.size := by have := hb4.size; omega
          clear hb4 c2
          go_wp2_with fail
          go_roundw
          case rel =>
            refine ⟨3, by omega, rfl, ?_, C4.out, hsz4, B4.out⟩
            show Value.string (tx (preTx ⟨3, l, r, a, b, c, d⟩ 2) ++ tx [32] ++ tx (Lib.itoa a)) = _
            rw [tx_app, tx_app]
            exact congrArg (fun s => Value.string (tx s)) (preTx_succ ⟨3, l, r, a, b, c, d⟩ 2).symm
          case measure => simp [intOf]
        · have c3 : _ = some (Value.int .i64 b) := HC.out 3 (by omega)
          have hz1 : (tx (preTx ⟨3, l, r, a, b, c, d⟩ 3)).size ≤ 1000 := by have := preTx_len ⟨3, l, r, a, b, c, d⟩ HIN.out 3; rw [tx_size]; omega
          have hz2 : (tx (Lib.itoa b)).size ≤ 1000 := by have := itoa_len b (HIN.out 4).1 (HIN.out 4).2; rw [tx_size]; omega
          have bd : -200000 ≤ b ∧ b ≤ 200000 := HB.out 4
          go_wp2_with fail
          refine (s_Number b (by omega) (by omega) _).mono ?_
          rintro e w4 ⟨rfl, hb4⟩
          have B4 := Lib.hid (Later.trans B3.out hb4)
          have C4 : Hid (∀ j, j < 6 → w4.cell? ⟨w.heap.size + 1 + 1, j, none⟩ = some (.int .i64 ((Sg.mk 3 l r a b c d).at (j + 1)))) := Lib.hid (fun j hj => by rw [Below.cell (p := ⟨w.heap.size + 1 + 1, j, none⟩) hb4 hsz]; exact HC.out j hj)
          have hsz4 : w.heap.size + 1 + 1 < w4.heap.size := by have := hb4.size; omega
          clear hb4 c3
          go_wp2_with fail
          go_roundw
          case rel =>
            refine ⟨4, by omega, rfl, ?_, C4.out, hsz4, B4.out⟩
            show Value.string (tx (preTx ⟨3, l, r, a, b, c, d⟩ 3) ++ tx [32] ++ tx (Lib.itoa b)) = _
            rw [tx_app, tx_app]
            exact congrArg (fun s => Value.string (tx s)) (preTx_succ ⟨3, l, r, a, b, c, d⟩ 3).symm
          case measure => simp [intOf]
        · have c4 : _ = some (Value.int .i64 c) := HC.out 4 (by omega)
          have hz1 : (tx (preTx ⟨3, l, r, a, b, c, d⟩ 4)).size ≤ 1000 := by have := preTx_len ⟨3, l, r, a, b, c, d⟩ HIN.out 4; rw [tx_size]; omega
          have hz2 : (tx (Lib.itoa c)).size ≤ 1000 := by have := itoa_len c (HIN.out 5).1 (HIN.out 5).2; rw [tx_size]; omega
          have bd : -200000 ≤ c ∧ c ≤ 200000 := HB.out 5
          go_wp2_with fail
          refine (s_Number c (by omega) (by omega) _).mono ?_
          rintro e w4 ⟨rfl, hb4⟩
          have B4 := Lib.hid (Later.trans B3.out hb4)
          have C4 : Hid (∀ j, j < 6 → w4.cell? ⟨w.heap.size + 1 + 1, j, none⟩ = some (.int .i64 ((Sg.mk 3 l r a b c d).at (j + 1)))) := Lib.hid (fun j hj => by rw [Below.cell (p := ⟨w.heap.size + 1 + 1, j, none⟩) hb4 hsz]; exact HC.out j hj)
          have hsz4 : w.heap.size + 1 + 1 < w4.heap.size := by have := hb4.size; omega
          clear hb4 c4
          go_wp2_with fail
          go_roundw
          case rel =>
            refine ⟨5, by omega, rfl, ?_, C4.out, hsz4, B4.out⟩
            show Value.string (tx (preTx ⟨3, l, r, a, b, c, d⟩ 4) ++ tx [32] ++ tx (Lib.itoa c)) = _
            rw [tx_app, tx_app]
            exact congrArg (fun s => Value.string (tx s)) (preTx_succ ⟨3, l, r, a, b, c, d⟩ 4).symm
          case measure => simp [intOf]
        · have c5 : _ = some (Value.int .i64 d) := HC.out 5 (by omega)
          have hz1 : (tx (preTx ⟨3, l, r, a, b, c, d⟩ 5)).size ≤ 1000 := by have := preTx_len ⟨3, l, r, a, b, c, d⟩ HIN.out 5; rw [tx_size]; omega
          have hz2 : (tx (Lib.itoa d)).size ≤ 1000 := by have := itoa_len d (HIN.out 6).1 (HIN.out 6).2; rw [tx_size]; omega
          have bd : -200000 ≤ d ∧ d ≤ 200000 := HB.out 6
          go_wp2_with fail
          refine (s_Number d (by omega) (by omega) _).mono ?_
          rintro e w4 ⟨rfl, hb4⟩
          have B4 := Lib.hid (Later.trans B3.out hb4)
          have C4 : Hid (∀ j, j < 6 → w4.cell? ⟨w.heap.size + 1 + 1, j, none⟩ = some (.int .i64 ((Sg.mk 3 l r a b c d).at (j + 1)))) := Lib.hid (fun j hj => by rw [Below.cell (p := ⟨w.heap.size + 1 + 1, j, none⟩) hb4 hsz]; exact HC.out j hj)
          have hsz4 : w.heap.size + 1 + 1 < w4.heap.size := by have := hb4.size; omega
          clear hb4 c5
          go_wp2_with fail
          go_roundw
          case rel =>
            refine ⟨6, by omega, rfl, ?_, C4.out, hsz4, B4.out⟩
            show Value.string (tx (preTx ⟨3, l, r, a, b, c, d⟩ 5) ++ tx [32] ++ tx (Lib.itoa d)) = _
            rw [tx_app, tx_app]
            exact congrArg (fun s => Value.string (tx s)) (preTx_succ ⟨3, l, r, a, b, c, d⟩ 5).symm
          case measure => simp [intOf]
      · obtain rfl : k = 6 := by omega
        go_wp2_with fail
        go_ret
        exact ⟨congrArg (fun s => Ending.returned (.string (tx s))) (preTx_6 ⟨3, l, r, a, b, c, d⟩), B3.out⟩
theorem s_Line4 (l r a b c d : Int) (h : sgB ⟨4, l, r, a, b, c, d⟩ = true) (hin : Sg.In ⟨4, l, r, a, b, c, d⟩) (w : World) :
    Calls Tryz.prog 26 #[.agg #[.int .i64 4, .int .i64 l, .int .i64 r, .int .i64 a, .int .i64 b, .int .i64 c, .int .i64 d]] w (Texts w (segTx ⟨4, l, r, a, b, c, d⟩)) := by
  have HB := Lib.hid (sg_bd _ h)
  have HIN := Lib.hid hin
  clear h hin
  have hk : kCells = #[.string (tx (kNm 0)), .string (tx (kNm 1)), .string (tx (kNm 2)), .string (tx (kNm 3)), .string (tx (kNm 4))] := rfl
  go_enter Tryz.func26, Tryz.ntmps26
  go_wp2_with fail
  go_region_with (go_at_call 41; refine (s_l03Kinds _).mono ?_; rw [hk]; rintro e w1 ⟨rfl, rfl⟩)
  all_goals
    go_wp2_with fail
    go_loopw [3, 5] (fun s i wr => ∃ k : Nat, k ≤ 6 ∧ i = .int .i64 k ∧ s = .string (tx (preTx ⟨4, l, r, a, b, c, d⟩ k)) ∧ (∀ j, j < 6 → wr.cell? ⟨w.heap.size + 1 + 1, j, none⟩ = some (.int .i64 ((Sg.mk 4 l r a b c d).at (j + 1)))) ∧ w.heap.size + 1 + 1 < wr.heap.size ∧ Later w wr) (fun _ i _ => 6 - (intOf i).toNat)
    case atStart =>
      refine ⟨0, by omega, rfl, by rw [preTx_0], ?_, by simp, (by repeat (first | (with_reducible exact Later.refl _) | (with_reducible exact Hid.out (by assumption)) | refine Later.alloc ?_ _ | refine Later.drewN ?_ _ | refine Later.drew ?_ | refine Later.trans ?_ (Hid.out (by assumption))))⟩
      intro j hj
      have h5 : j = 0 ∨ j = 1 ∨ j = 2 ∨ j = 3 ∨ j = 4 ∨ j = 5 := by omega
      rcases h5 with rfl | rfl | rfl | rfl | rfl | rfl
      all_goals
        (repeat with_reducible refine cell_drew _ _ _ ?_)
        exact cell_new _ _ _ _ _ _ (by simp) rfl
    case round =>
      obtain ⟨k, hk6, rfl, rfl, hc, hsz, hb⟩ := hrel
      have HC := Lib.hid hc; have B3 := Lib.hid hb
      clear hc hb
      by_cases h6 : k < 6
      · have h5 : k = 0 ∨ k = 1 ∨ k = 2 ∨ k = 3 ∨ k = 4 ∨ k = 5 := by omega
        clear h6 hk6
        rcases h5 with rfl | rfl | rfl | rfl | rfl | rfl
        · have c0 : _ = some (Value.int .i64 l) := HC.out 0 (by omega)
          have hz1 : (tx (preTx ⟨4, l, r, a, b, c, d⟩ 0)).size ≤ 1000 := by have := preTx_len ⟨4, l, r, a, b, c, d⟩ HIN.out 0; rw [tx_size]; omega
          have hz2 : (tx (Lib.itoa l)).size ≤ 1000 := by have := itoa_len l (HIN.out 1).1 (HIN.out 1).2; rw [tx_size]; omega
          have bd : -200000 ≤ l ∧ l ≤ 200000 := HB.out 1
          go_wp2_with fail
          refine (s_Number l (by omega) (by omega) _).mono ?_
          rintro e w4 ⟨rfl, hb4⟩
          have B4 := Lib.hid (Later.trans B3.out hb4)
          have C4 : Hid (∀ j, j < 6 → w4.cell? ⟨w.heap.size + 1 + 1, j, none⟩ = some (.int .i64 ((Sg.mk 4 l r a b c d).at (j + 1)))) := Lib.hid (fun j hj => by rw [Below.cell (p := ⟨w.heap.size + 1 + 1, j, none⟩) hb4 hsz]; exact HC.out j hj)
          have hsz4 : w.heap.size + 1 + 1 < w4.heap.size := by have := hb4.size; omega
          clear hb4 c0
          go_wp2_with fail
          go_roundw
          case rel =>
            refine ⟨1, by omega, rfl, ?_, C4.out, hsz4, B4.out⟩
            show Value.string (tx (preTx ⟨4, l, r, a, b, c, d⟩ 0) ++ tx [32] ++ tx (Lib.itoa l)) = _
            rw [tx_app, tx_app]
            exact congrArg (fun s => Value.string (tx s)) (preTx_succ ⟨4, l, r, a, b, c, d⟩ 0).symm
          case measure => simp [intOf]
        · have c1 : _ = some (Value.int .i64 r) := HC.out 1 (by omega)
          have hz1 : (tx (preTx ⟨4, l, r, a, b, c, d⟩ 1)).size ≤ 1000 := by have := preTx_len ⟨4, l, r, a, b, c, d⟩ HIN.out 1; rw [tx_size]; omega
          have hz2 : (tx (Lib.itoa r)).size ≤ 1000 := by have := itoa_len r (HIN.out 2).1 (HIN.out 2).2; rw [tx_size]; omega
          have bd : -200000 ≤ r ∧ r ≤ 200000 := HB.out 2
          go_wp2_with fail
          refine (s_Number r (by omega) (by omega) _).mono ?_
          rintro e w4 ⟨rfl, hb4⟩
          have B4 := Lib.hid (Later.trans B3.out hb4)
          have C4 : Hid (∀ j, j < 6 → w4.cell? ⟨w.heap.size + 1 + 1, j, none⟩ = some (.int .i64 ((Sg.mk 4 l r a b c d).at (j + 1)))) := Lib.hid (fun j hj => by rw [Below.cell (p := ⟨w.heap.size + 1 + 1, j, none⟩) hb4 hsz]; exact HC.out j hj)
          have hsz4 : w.heap.size + 1 + 1 < w4.heap.size := by have := hb4.size; omega
          clear hb4 c1
          go_wp2_with fail
          go_roundw
          case rel =>
            refine ⟨2, by omega, rfl, ?_, C4.out, hsz4, B4.out⟩
            show Value.string (tx (preTx ⟨4, l, r, a, b, c, d⟩ 1) ++ tx [32] ++ tx (Lib.itoa r)) = _
            rw [tx_app, tx_app]
            exact congrArg (fun s => Value.string (tx s)) (preTx_succ ⟨4, l, r, a, b, c, d⟩ 1).symm
          case measure => simp [intOf]
        · have c2 : _ = some (Value.int .i64 a) := HC.out 2 (by omega)
          have hz1 : (tx (preTx ⟨4, l, r, a, b, c, d⟩ 2)).size ≤ 1000 := by have := preTx_len ⟨4, l, r, a, b, c, d⟩ HIN.out 2; rw [tx_size]; omega
          have hz2 : (tx (Lib.itoa a)).size ≤ 1000 := by have := itoa_len a (HIN.out 3).1 (HIN.out 3).2; rw [tx_size]; omega
          have bd : -200000 ≤ a ∧ a ≤ 200000 := HB.out 3
          go_wp2_with fail
          refine (s_Number a (by omega) (by omega) _).mono ?_
          rintro e w4 ⟨rfl, hb4⟩
          have B4 := Lib.hid (Later.trans B3.out hb4)
          have C4 : Hid (∀ j, j < 6 → w4.cell? ⟨w.heap.size + 1 + 1, j, none⟩ = some (.int .i64 ((Sg.mk 4 l r a b c d).at (j + 1)))) := Lib.hid (fun j hj => by rw [Below.cell (p := ⟨w.heap.size + 1 + 1, j, none⟩) hb4 hsz]; exact HC.out j hj)
          have hsz4 : w.heap.size + 1 + 1 < w4.heap.size := by have := hb4.size; omega
          clear hb4 c2
          go_wp2_with fail
          go_roundw
          case rel =>
            refine ⟨3, by omega, rfl, ?_, C4.out, hsz4, B4.out⟩
            show Value.string (tx (preTx ⟨4, l, r, a, b, c, d⟩ 2) ++ tx [32] ++ tx (Lib.itoa a)) = _
            rw [tx_app, tx_app]
            exact congrArg (fun s => Value.string (tx s)) (preTx_succ ⟨4, l, r, a, b, c, d⟩ 2).symm
          case measure => simp [intOf]
        · have c3 : _ = some (Value.int .i64 b) := HC.out 3 (by omega)
          have hz1 : (tx (preTx ⟨4, l, r, a, b, c, d⟩ 3)).size ≤ 1000 := by have := preTx_len ⟨4, l, r, a, b, c, d⟩ HIN.out 3; rw [tx_size]; omega
          have hz2 : (tx (Lib.itoa b)).size ≤ 1000 := by have := itoa_len b (HIN.out 4).1 (HIN.out 4).2; rw [tx_size]; omega
          have bd : -200000 ≤ b ∧ b ≤ 200000 := HB.out 4
          go_wp2_with fail
          refine (s_Number b (by omega) (by omega) _).mono ?_
          rintro e w4 ⟨rfl, hb4⟩
          have B4 := Lib.hid (Later.trans B3.out hb4)
          have C4 : Hid (∀ j, j < 6 → w4.cell? ⟨w.heap.size + 1 + 1, j, none⟩ = some (.int .i64 ((Sg.mk 4 l r a b c d).at (j + 1)))) := Lib.hid (fun j hj => by rw [Below.cell (p := ⟨w.heap.size + 1 + 1, j, none⟩) hb4 hsz]; exact HC.out j hj)
          have hsz4 : w.heap.size + 1 + 1 < w4.heap.size := by have := hb4.size; omega
          clear hb4 c3
          go_wp2_with fail
          go_roundw
          case rel =>
            refine ⟨4, by omega, rfl, ?_, C4.out, hsz4, B4.out⟩
            show Value.string (tx (preTx ⟨4, l, r, a, b, c, d⟩ 3) ++ tx [32] ++ tx (Lib.itoa b)) = _
            rw [tx_app, tx_app]
            exact congrArg (fun s => Value.string (tx s)) (preTx_succ ⟨4, l, r, a, b, c, d⟩ 3).symm
          case measure => simp [intOf]
        · have c4 : _ = some (Value.int .i64 c) := HC.out 4 (by omega)
          have hz1 : (tx (preTx ⟨4, l, r, a, b, c, d⟩ 4)).size ≤ 1000 := by have := preTx_len ⟨4, l, r, a, b, c, d⟩ HIN.out 4; rw [tx_size]; omega
          have hz2 : (tx (Lib.itoa c)).size ≤ 1000 := by have := itoa_len c (HIN.out 5).1 (HIN.out 5).2; rw [tx_size]; omega
          have bd : -200000 ≤ c ∧ c ≤ 200000 := HB.out 5
          go_wp2_with fail
          refine (s_Number c (by omega) (by omega) _).mono ?_
          rintro e w4 ⟨rfl, hb4⟩
          have B4 := Lib.hid (Later.trans B3.out hb4)
          have C4 : Hid (∀ j, j < 6 → w4.cell? ⟨w.heap.size + 1 + 1, j, none⟩ = some (.int .i64 ((Sg.mk 4 l r a b c d).at (j + 1)))) := Lib.hid (fun j hj => by rw [Below.cell (p := ⟨w.heap.size + 1 + 1, j, none⟩) hb4 hsz]; exact HC.out j hj)
          have hsz4 : w.heap.size + 1 + 1 < w4.heap.size := by have := hb4.size; omega
          clear hb4 c4
          go_wp2_with fail
          go_roundw
          case rel =>
            refine ⟨5, by omega, rfl, ?_, C4.out, hsz4, B4.out⟩
            show Value.string (tx (preTx ⟨4, l, r, a, b, c, d⟩ 4) ++ tx [32] ++ tx (Lib.itoa c)) = _
            rw [tx_app, tx_app]
            exact congrArg (fun s => Value.string (tx s)) (preTx_succ ⟨4, l, r, a, b, c, d⟩ 4).symm
          case measure => simp [intOf]
        · have c5 : _ = some (Value.int .i64 d) := HC.out 5 (by omega)
          have hz1 : (tx (preTx ⟨4, l, r, a, b, c, d⟩ 5)).size ≤ 1000 := by have := preTx_len ⟨4, l, r, a, b, c, d⟩ HIN.out 5; rw [tx_size]; omega
          have hz2 : (tx (Lib.itoa d)).size ≤ 1000 := by have := itoa_len d (HIN.out 6).1 (HIN.out 6).2; rw [tx_size]; omega
          have bd : -200000 ≤ d ∧ d ≤ 200000 := HB.out 6
          go_wp2_with fail
          refine (s_Number d (by omega) (by omega) _).mono ?_
          rintro e w4 ⟨rfl, hb4⟩
          have B4 := Lib.hid (Later.trans B3.out hb4)
          have C4 : Hid (∀ j, j < 6 → w4.cell? ⟨w.heap.size + 1 + 1, j, none⟩ = some (.int .i64 ((Sg.mk 4 l r a b c d).at (j + 1)))) := Lib.hid (fun j hj => by rw [Below.cell (p := ⟨w.heap.size + 1 + 1, j, none⟩) hb4 hsz]; exact HC.out j hj)
          have hsz4 : w.heap.size + 1 + 1 < w4.heap.size := by have := hb4.size; omega
          clear hb4 c5
          go_wp2_with fail
          go_roundw
          case rel =>
            refine ⟨6, by omega, rfl, ?_, C4.out, hsz4, B4.out⟩
            show Value.string (tx (preTx ⟨4, l, r, a, b, c, d⟩ 5) ++ tx [32] ++ tx (Lib.itoa d)) = _
            rw [tx_app, tx_app]
            exact congrArg (fun s => Value.string (tx s)) (preTx_succ ⟨4, l, r, a, b, c, d⟩ 5).symm
          case measure => simp [intOf]
      · obtain rfl : k = 6 := by omega
        go_wp2_with fail
        go_ret
        exact ⟨congrArg (fun s => Ending.returned (.string (tx s))) (preTx_6 ⟨4, l, r, a, b, c, d⟩), B3.out⟩
theorem s_Line (x : Sg) (h : sgB x = true) (hin : x.In) (w : World) : Calls Tryz.prog 26 #[.agg #[.int .i64 x.k, .int .i64 x.l, .int .i64 x.r, .int .i64 x.a, .int .i64 x.b, .int .i64 x.c, .int .i64 x.d]] w (Texts w (segTx x)) := by
  have hk : kndB x.k = true := by have := ((sgB_iff x).1 h).1; unfold kndB; simp; omega
  obtain ⟨k, l, r, a, b, c, d⟩ := x
  rcases kinds hk with h' | h' | h' | h' | h'
  all_goals
    (replace h' : k = _ := h'; subst h')
  · exact s_Line0 l r a b c d h hin w
  · exact s_Line1 l r a b c d h hin w
  · exact s_Line2 l r a b c d h hin w
  · exact s_Line3 l r a b c d h hin w
  · exact s_Line4 l r a b c d h hin w
end Go.Proofs.YtkhhoajoionlfaaGreatDoor
namespace Go.Proofs.YtkhhoajoionlfaaGreatDoor
open Go.RowKit Go.Shelf
set_option maxHeartbeats 4000000
set_option linter.unusedVariables false
set_option linter.unusedSimpArgs false
theorem s_LayoutText (a : Option Addr) (n cap : Nat) (L : List Sg) (w : World) (hs : Sgs w a n L) :
    Calls Tryz.prog 10 #[.agg #[.slice a n cap]] w (Texts w (layTx L)) := by
  have HS := Lib.hid hs
  have HL := Lib.hid hs.1
  have hn := hs.2.1
  have HI := Lib.hid hs.2.2.2
  clear hs
  cases hv : layB L
  · have HT : Hid (layTx L = []) := Lib.hid (by unfold layTx; rw [hv]; simp)
    go_enter Tryz.func10, Tryz.ntmps10
    go_wp2_with (go_at_call 12; refine (s_IsLayout a n cap L _ (HS.out.later ((Later.refl _).alloc _))).mono ?_; rw [hv]; rintro e w1 ⟨rfl, hb⟩; obtain ⟨H, hcc, hff, hzz⟩ := later_facts hb; clear hb; (try simp at hzz); (try simp only [World.heap_drewN, World.cell?_drewN, World.frozen?_drewN] at hcc hff))
    go_ret
    exact ⟨by rw [HT.out]; rfl, Later.trans ((Later.refl _).alloc _) H.out⟩
  · have HO := Lib.hid ((layB_iff L).1 hv).2.2.1
    have HX : Hid (layTx L = linTx L) := Lib.hid (by unfold layTx; rw [hv]; simp)
    have h24 := ((layB_iff L).1 hv).2.1
    rw [HL.out] at h24
    go_enter Tryz.func10, Tryz.ntmps10
    go_wp2_with (go_at_call 12; refine (s_IsLayout a n cap L _ (HS.out.later ((Later.refl _).alloc _))).mono ?_; rw [hv]; rintro e w1 ⟨rfl, hb⟩; obtain ⟨H, hcc, hff, hzz⟩ := later_facts hb; clear hb; (try simp at hzz); have hz0 : w.heap.size < w1.heap.size := (by omega); (try simp only [World.heap_drewN, World.cell?_drewN, World.frozen?_drewN] at hcc hff))
    clear hv
    have B1 := Lib.hid (Later.trans ((Later.refl w).alloc _) H.out)
    have C1 : Hid (w1.cell? ⟨w.heap.size, 0, none⟩ = some (.slice a n cap)) := Lib.hid (by rw [hcc _ _ (by simp)]; simp)
    clear hcc hff hzz
    go_loopw [3, 4] (fun s i wr => ∃ k : Nat, k ≤ n ∧ i = .int .i64 k ∧ s = .string (tx (linTx (L.take k))) ∧ wr.cell? ⟨w.heap.size, 0, none⟩ = some (.slice a n cap) ∧ w.heap.size < wr.heap.size ∧ Later w wr) (fun _ i _ => n - (intOf i).toNat)
    case atStart => exact ⟨0, by omega, rfl, rfl, C1.out, hz0, B1.out⟩
    case round =>
      obtain ⟨k, hk, rfl, rfl, cb, hsz, hlw⟩ := hrel
      have HW := Lib.hid hlw; have HCB := Lib.hid cb
      clear hlw
      by_cases hlt : k < n
      · obtain ⟨b', off', rfl, hb', hc⟩ := (HS.out.later HW.out).at k hlt
        obtain ⟨c0, c1, c2, c3, c4, c5, c6⟩ := hc
        have HG : Hid (sgB (sx L k) = true) := Lib.hid (okB_at L L.length k (Nat.le_refl _) (by rw [HL.out]; exact hlt) HO.out)
        have hin : Hid ((sx L k).In) := Lib.hid (HS.out.in k hlt)
        have hls : (tx (segTx (sx L k))).size ≤ 200 := segTx_len _ hin.out
        have hln : (tx (linTx (L.take k))).size ≤ 4824 := (by
          have h1 := linTx_len (L.take k) (fun x hx => HI.out x (List.mem_of_mem_take hx))
          have h2 : (L.take k).length ≤ 24 := by rw [List.length_take]; omega
          rw [tx_size]; omega)
        go_wp2_with fail
        refine (s_Line (sx L k) HG.out hin.out _).mono ?_
        rintro e w4 ⟨rfl, hb4⟩
        have B4 := Lib.hid (Later.trans HW.out (Later.trans (by repeat (first | (with_reducible exact Later.refl _) | refine Later.alloc ?_ _ | refine Later.drewN ?_ _ | refine Later.drew ?_)) hb4))
        obtain ⟨H4, hcc, hff, hzz⟩ := later_facts hb4
        clear hb4 c0 c1 c2 c3 c4 c5 c6
        (try simp at hzz)
        go_wp2_with fail
        go_roundw
        case rel =>
          refine ⟨k + 1, by omega, by go_num, ?_, by rw [hcc _ _ (by simpa using hsz)]; simpa using HCB.out, by omega, B4.out⟩
          show Value.string (tx (linTx (L.take k)) ++ tx (segTx (sx L k)) ++ tx [10]) = _
          rw [tx_app, tx_app, linTx_succ L k (by rw [HL.out]; exact hlt), List.append_assoc]
        case measure => simp [intOf]; omega
      · obtain rfl : k = n := by omega
        have hT : Hid (linTx (L.take k) = layTx L) := Lib.hid (by rw [HX.out, List.take_of_length_le (by rw [HL.out]; omega)])
        go_wp2_with fail
        go_ret
        exact ⟨congrArg (fun s => Ending.returned (.string (tx s))) hT.out, HW.out⟩
end Go.Proofs.YtkhhoajoionlfaaGreatDoor
namespace Go.Proofs.YtkhhoajoionlfaaGreatDoor
open Go.RowKit
set_option maxHeartbeats 4000000
set_option linter.unusedVariables false
set_option linter.unusedSimpArgs false
def pick8 (j : Nat) : ByteArray := tx [[48, 49, 32, 45, 46, 97, 10, 58].getD j 48]
theorem pick8_size (j : Nat) : (pick8 j).size = 1 := rfl
def eight : Array Value := #[.string ⟨#[48]⟩, .string ⟨#[49]⟩, .string ⟨#[32]⟩, .string ⟨#[45]⟩, .string ⟨#[46]⟩, .string ⟨#[97]⟩, .string ⟨#[10]⟩, .string ⟨#[58]⟩]
theorem eight_at (W : World) (j : Nat) (hj : j < 8) : (W.alloc (.cells #[.string ⟨#[48]⟩, .string ⟨#[49]⟩, .string ⟨#[32]⟩, .string ⟨#[45]⟩, .string ⟨#[46]⟩, .string ⟨#[97]⟩, .string ⟨#[10]⟩, .string ⟨#[58]⟩] 9)).cell? ⟨W.heap.size, j, none⟩ = some (.string (pick8 j)) := by
  rw [cell_of_row _ _ j _ 9 (0, 0) (heap_alloc_new W _)]
  rcases (show j = 0 ∨ j = 1 ∨ j = 2 ∨ j = 3 ∨ j = 4 ∨ j = 5 ∨ j = 6 ∨ j = 7 by omega) with rfl | rfl | rfl | rfl | rfl | rfl | rfl | rfl <;> rfl
/-- a text drawn: short, and nothing turned but the source -/
def DrawnT (w : World) (B : Nat) (a : Option Addr) (len cap : Nat) (most : Nat) (e : Ending) (w' : World) : Prop :=
  ∃ s : ByteArray, e = .returned (.string s) ∧ s.size ≤ most ∧ Src w' B a len cap ∧ w.grownBy w' (some B)
theorem below_grown {w w' : World} (h : Below w.heap.size w w') : w.grownBy w' none :=
  ⟨h.os, h.tape, h.output, h.size, fun k hk _ => h.block k hk⟩
theorem size_ext (t : ByteArray) (a b : Nat) : (t.extract a b).size = min b t.size - a := by simp
theorem s_DamageN (N B : Nat) (a : Option Addr) (len cap : Nat) (t : ByteArray) (w : World) (hs : Src w B a len cap) (ht : t.size ≤ N) (hN : N ≤ 1000000000) :
    Calls Tryz.prog 23 #[.pointer (some ⟨B, 0, none⟩), .string t] w (DrawnT w B a len cap (N + 1)) := by
  have HS := Lib.hid hs
  clear hs
  go_enter Tryz.func23, Tryz.ntmps23
  go_wp2_with fail
  refine (s_Next B a len cap _ w HS.out (by omega) (by omega)).mono ?_
  rintro e w1 ⟨r, rfl, r0, r1, r2, src, gr⟩
  obtain ⟨k, rfl⟩ := Int.eq_ofNat_of_zero_le r0
  have hk : k ≤ t.size := by
    by_cases h : (1 : Int) < (t.size : Int) + 1
    · have := r1 h; omega
    · have := r2 (by omega); omega
  have S1 := Lib.hid src; have G1 := Lib.hid gr
  clear src gr r1 r2
  go_wp2_with fail
  refine (s_Next B a len cap 8 _ S1.out (by omega) (by omega)).mono ?_
  rintro e w2 ⟨r, rfl, q0, q1, q2, src, gr⟩
  have hr := q1 (by omega)
  have S2 := Lib.hid src; have G2 := Lib.hid (grown_trans G1.out gr)
  have hB := src.lt
  clear src gr q1 q2
  have w4 : (0 : Int) ≤ (k : Int) := by omega
  have w5 : (k : Int) ≤ (t.size : Int) := by omega
  rcases (show r = 0 ∨ r = 1 ∨ r = 2 ∨ 2 < r by omega) with rfl | rfl | rfl | hr2
  · go_wp2_with fail
    go_ret
    exact ⟨_, rfl, by rw [size_ext]; omega, S2.out, G2.out⟩
  · have PC := eight_at
    go_wp2_with fail
    go_region_with (go_at_call 22; refine (s_Next B a len cap 8 _ (by first | exact S2.out | exact S2.out.alloc _) (by omega) (by omega)).mono ?_; rintro e w3 ⟨q, rfl, z0, z1, z2, src, gr⟩; obtain ⟨j, rfl⟩ := Int.eq_ofNat_of_zero_le z0; have hj : j < 8 := (by have := z1 (by omega); omega); have hp := pick8_size j; (first | (have hc1 : w3.cell? ⟨w2.heap.size, j, none⟩ = some (.string (pick8 j)) := gr.cell (eight_at w2.drew j hj) (by simp; omega)) | skip); have S3 := Lib.hid src; have G3 := Lib.hid gr; clear src gr z1 z2)
    all_goals
      go_wp2
      go_ret
      refine ⟨_, rfl, by rw [ByteArray.size_append, ByteArray.size_append, size_ext, size_ext, hp]; omega, ?_, ?_⟩
      · first
          | exact S3.out
          | exact S3.out.alloc _
      · first
          | exact grown_trans G2.out (grown_trans (grown_trans (grown_drewN w2 1 _) (World.grownBy_alloc _ _ _)) G3.out)
          | exact grown_trans G2.out (grown_trans (grown_trans (grown_drewN w2 1 _) G3.out) (World.grownBy_alloc _ _ _))
  · by_cases hkt : k < t.size
    · have w6 : (0 : Int) ≤ (k : Int) + 1 := by omega
      have w7 : (k : Int) + 1 ≤ (t.size : Int) := by omega
      have w8 : IntKind.i64.wrap ((k : Int) + 1) = (k : Int) + 1 := IntWalk.i64_in _ (by omega)
      have w9 : ((k : Int) + 1).toNat = k + 1 := by omega
      go_wp2_with fail
      go_quiet (fail)
      go_wp2
      go_ret
      exact ⟨_, rfl, by rw [ByteArray.size_append, size_ext, size_ext]; omega, S2.out, grown_trans G2.out (grown_drewN _ _ _)⟩
    · go_wp2_with fail
      go_ret
      exact ⟨_, rfl, by omega, S2.out, G2.out⟩
  · have e0 : (r == 0) = false := by simp; omega
    have e1 : (r == 1) = false := by simp; omega
    have e2 : (r == 2) = false := by simp; omega
    clear hr2
    go_wp2_with fail
    go_ret
    exact ⟨_, rfl, by omega, S2.out, G2.out⟩
end Go.Proofs.YtkhhoajoionlfaaGreatDoor
namespace Go.Proofs.YtkhhoajoionlfaaGreatDoor
open Go.RowKit
set_option maxHeartbeats 2000000
set_option linter.unusedVariables false
set_option linter.unusedSimpArgs false
/-- a slice of integers that came in, as the shell of a proof says it -/
def IsRow (k : IntKind) (w : World) (a : Option Addr) (len cap : Nat) (zs : List Int) : Prop :=
  (a = none ∧ len = 0 ∧ cap = 0 ∧ zs = []) ∨
  ∃ x, a = some x ∧ len ≤ cap ∧ cap ≤ maxLen ∧ zs.length = cap ∧ (∀ i, i < zs.length → w.cell? (x.add i) = some (.int k (zs.getD i 0))) ∧ ∀ n ∈ zs, (Lit.int k n).wf = true
theorem isRow_sl {w : World} {a : Option Addr} {len cap : Nat} {zs : List Int} (h : IsRow .i64 w a len cap zs) : Sl w a len (zs.take len) := by
  rcases h with ⟨rfl, rfl, rfl, rfl⟩ | ⟨x, rfl, hl, hm, hz, hc, hw⟩
  · exact ⟨rfl, by omega, fun k hk => absurd hk (by omega), fun x hx => by simp at hx⟩
  · unfold maxLen at hm
    refine ⟨by rw [List.length_take]; omega, by omega, fun k hk => ?_, fun y hy => ?_⟩
    · have h0 := hc 0 (by omega)
      have hk0 := hc k (by omega)
      obtain ⟨b, off, spot⟩ := x
      have hspot : spot = none := by simpa [Addr.add] using World.cell?_spot h0
      subst hspot
      rw [Addr.add_lit] at hk0
      exact ⟨b, off, rfl, by rw [gx_take _ _ _ hk]; exact hk0⟩
    · have := hw y (List.mem_of_mem_take hy)
      simp [Lit.wf, IntKind.min, IntKind.max, IntKind.signed, IntKind.bits] at this
      exact this
theorem isRow_bytes {w : World} {a : Option Addr} {len cap : Nat} {zs : List Int} (h : IsRow .u8 w a len cap zs) : Bytes w a len := by
  rcases h with ⟨rfl, rfl, rfl, rfl⟩ | ⟨x, rfl, hl, hm, hz, hc, hw⟩
  · exact ⟨by omega, fun k hk => absurd hk (by omega)⟩
  · unfold maxLen at hm
    refine ⟨by omega, fun k hk => ?_⟩
    have h0 := hc 0 (by omega)
    have hk0 := hc k (by omega)
    obtain ⟨b, off, spot⟩ := x
    have hspot : spot = none := by simpa [Addr.add] using World.cell?_spot h0
    subst hspot
    rw [Addr.add_lit] at hk0
    have hb := hw (zs.getD k 0) (show gx zs k ∈ zs from gx_mem zs k (by omega))
    simp [Lit.wf, IntKind.min, IntKind.max, IntKind.signed, IntKind.bits] at hb
    exact ⟨b, off, zs.getD k 0, rfl, hk0, by simpa using hb.1, by simpa using hb.2⟩
end Go.Proofs.YtkhhoajoionlfaaGreatDoor
namespace Go.Proofs.YtkhhoajoionlfaaGreatDoor
open Go.RowKit Go.Shelf
set_option maxHeartbeats 4000000
set_option linter.unusedVariables false
set_option linter.unusedSimpArgs false
theorem sgs_farQ {w : World} {a : Option Addr} {n g : Nat} {L : List Sg} (h : Sgs w a n L) (u : Value) (hne : ∀ x, a = some x → x.block ≠ g) : Sgs (w.setCell ⟨g, 0, none⟩ u) a n L := by
  obtain ⟨h1, h2, h3, h4⟩ := h
  refine ⟨h1, h2, fun k hk => ?_, h4⟩
  obtain ⟨b, off, e, hcl⟩ := h3 k hk
  have hne := hne _ e
  refine ⟨b, off, e, fun j hj => ?_⟩
  rw [World.cell?_setCell_far _ _ _ _ (Ne.symm hne)]
  exact hcl j hj
/-- a layout that was drawn -/
def DrawnLn (w : World) (e : Ending) (w' : World) : Prop :=
  ∃ (a : Option Addr) (n cap : Nat) (L : List Sg), e = .returned (.agg #[.slice a n cap]) ∧ Sgs w' a n L ∧ n ≤ cap ∧ n ≤ 26 ∧ Below w.heap.size w w'
set_option maxRecDepth 100000 in
theorem s_DrawLayoutText (a : Option Addr) (len cap : Nat) (w : World) (hs : Bytes w a len) :
    Calls Tryz.prog 5 #[.slice a len cap] w (DrawnLn w) := by
  have HS := Lib.hid hs
  clear hs
  go_enter Tryz.func5, Tryz.ntmps5
  go_wp2_with fail
  refine (s_From a len cap _ (HS.out.later ((Below.refl _ _).alloc (Nat.le_refl _) _))).mono ?_
  rintro e w1 ⟨rfl, src, lt, bel⟩
  rw [World.size_alloc] at src lt bel ⊢
  have hc1 : w1.cell? ⟨w.heap.size, 0, none⟩ = some (.slice none 0 0) := by rw [bel.cell (p := ⟨w.heap.size, 0, none⟩) (Nat.lt_succ_self _)]; simp
  have B1 : Hid (Below w.heap.size w w1) := Lib.hid (((Below.refl _ _).alloc (Nat.le_refl _) _).trans (bel.mono (Nat.le_succ _)))
  have S1 := Lib.hid src
  have hf1 : w1.frozen? ⟨w.heap.size, 0, none⟩ = false := by rw [Below.frozen (p := ⟨w.heap.size, 0, none⟩) bel (Nat.lt_succ_self _)]; simp
  clear src bel
  go_wp2_with fail
  refine (s_Draw (w.heap.size + 1) a len cap _ S1.out).mono ?_
  rintro e w2 ⟨a', n, cap', L, rfl, hl, hcap, h26, hsm, hbl, src, gr⟩
  have B2 := Lib.hid (B1.out.grown gr B1.out.size (fun k h => by have := Option.some.inj h; omega))
  have hc2 := gr.cell hc1 (fun e => by have := Option.some.inj e; simp at this)
  have hf2 : w2.frozen? ⟨w.heap.size, 0, none⟩ = false := by rw [World.frozen?_of_block (w := w1) (gr.block w.heap.size (by omega) (fun e => by have := Option.some.inj e; omega))]; exact hf1
  have L2 := Lib.hid hl
  have NB : Hid (∀ x, a' = some x → x.block ≠ w.heap.size) := Lib.hid (fun x hx => by have h1 := hbl x hx; omega)
  have hsz := B1.out.size
  clear hl src gr hbl hsm
  go_wp2_with fail
  refine bodyPost_ret (v := .agg #[.slice a' n cap']) (by simp [results, Tryz.results5, go_sem, *] <;> omega) rfl ⟨a', n, cap', L, rfl, sgs_farQ L2.out _ (fun x hx => NB.out x hx), hcap, h26, B2.out.setCell (p := ⟨w.heap.size, 0, none⟩) (Nat.le_refl _) _⟩
theorem layTx_len (L : List Sg) (hin : ∀ x ∈ L, x.In) : (layTx L).length ≤ 6000 := by
  unfold layTx
  split
  · rename_i h
    have h2 := ((layB_iff L).1 h).2.1
    have := linTx_len L hin
    omega
  · simp
/-- a text that was drawn -/
def DrawnTx (w : World) (e : Ending) (w' : World) : Prop := ∃ s : ByteArray, e = .returned (.string s) ∧ s.size ≤ 6001 ∧ Below w.heap.size w w'
set_option maxRecDepth 100000 in
theorem s_DrawReadLayout (a : Option Addr) (len cap : Nat) (w : World) (hs : Bytes w a len) :
    Calls Tryz.prog 8 #[.slice a len cap] w (DrawnTx w) := by
  have HS := Lib.hid hs
  have HAB := Lib.hid hs.low
  clear hs
  go_enter Tryz.func8, Tryz.ntmps8
  go_wp2_with fail
  refine (s_From a len cap w HS.out).mono ?_
  rintro e w1 ⟨rfl, src, lt, bel⟩
  have S1 := Lib.hid src; have B1 := Lib.hid bel
  clear src bel
  go_wp2_with fail
  refine (s_Draw w.heap.size a len cap _ S1.out).mono ?_
  rintro e w2 ⟨a', n, cap', L, rfl, hl, hcap, h26, hsm, hbl, src, gr⟩
  have S2 := Lib.hid src; have B2 := Lib.hid (B1.out.trans (grown_below gr (Nat.le_refl _) (Nat.le_of_lt lt)))
  have L2 := Lib.hid hl
  have lt2 := src.lt
  clear src gr hsm hbl hl
  go_wp2_with fail
  refine (s_LayoutText _ _ _ L _ L2.out).mono ?_
  rintro e w3 ⟨rfl, hb⟩
  have S3 := Lib.hid (S2.out.kept2 HAB.out ⟨hb.os, hb.tape, hb.output, hb.size, fun k hk (_ : some k ≠ none) => hb.block k hk⟩ (fun k hk => by cases hk))
  have B3 := Lib.hid (B2.out.trans (hb.mono (Nat.le_of_lt lt2)))
  have hl := layTx_len L L2.out.2.2.2
  rw [← tx_size] at hl
  obtain ⟨t, htt⟩ : ∃ t, t = tx (layTx L) := ⟨_, rfl⟩
  rw [← htt] at hl ⊢
  clear hb htt
  go_wp2_with fail
  refine (s_Next w.heap.size a len cap 3 _ S3.out (by omega) (by omega)).mono ?_
  rintro e w4 ⟨r, rfl, r0, r1, r2, src, gr⟩
  have S4 := Lib.hid src; have B4 := Lib.hid (B3.out.trans (grown_below gr (Nat.le_refl _) B3.out.size))
  clear src gr r1 r2
  by_cases c0 : r = 0
  · subst c0
    go_wp2_with fail
    refine (s_DamageN 6000 w.heap.size a len cap t _ S4.out hl (by omega)).mono ?_
    rintro e w5 ⟨s, rfl, hs, src, gr⟩
    have B5 := Lib.hid (B4.out.trans (grown_below gr (Nat.le_refl _) B4.out.size))
    clear src gr
    go_wp2_with fail
    go_ret
    exact ⟨_, rfl, hs, B5.out⟩
  · have e0 : (r == 0) = false := by simpa using c0
    clear c0
    go_wp2_with fail
    go_ret
    exact ⟨_, rfl, by omega, B4.out⟩
end Go.Proofs.YtkhhoajoionlfaaGreatDoor
namespace Go.Proofs.YtkhhoajoionlfaaGreatDoor
open Go.RowKit
set_option maxHeartbeats 4000000
set_option linter.unusedVariables false
set_option linter.unusedSimpArgs false
set_option maxRecDepth 100000 in
theorem l_likeLayouts (a b : Option Addr) (n cap m cap' : Nat) (L : List Sg) (w : World) (hs : Sgs w a n L) (ht : Sgs w b m L) :
    Calls Tryz.prog 13 #[.agg #[.slice a n cap], .agg #[.slice b m cap']] w fun e w' => e = .returned (.bool true) ∧ Later w w' := by
  have hn := hs.1; have hm := ht.1
  obtain rfl : n = m := by omega
  have HS := Lib.hid hs; have HT := Lib.hid ht
  have hn' := hs.2.1
  clear hs ht hm hn
  have e0 : ((n : Int) != (n : Int)) = false := by simp
  go_enter Tryz.func13, Tryz.ntmps13
  go_wp2_with fail
  go_loopw [5] (fun i wr => ∃ k : Nat, k ≤ n ∧ i = .int .i64 k ∧ wr.cell? ⟨w.heap.size, 0, none⟩ = some (.slice a n cap) ∧ wr.cell? ⟨w.heap.size + 1, 0, none⟩ = some (.slice b n cap') ∧ w.heap.size + 1 < wr.heap.size ∧ Later w wr) (fun i _ => n - (intOf i).toNat)
  case atStart => exact ⟨0, by omega, rfl, by simp, by simp, by simp, ((Later.refl _).alloc _).alloc _⟩
  case round =>
    obtain ⟨k, hk, rfl, c1, c2, hz, hlw⟩ := hrel
    have HW := Lib.hid hlw
    have C1 := Lib.hid c1; have C2 := Lib.hid c2
    clear hlw
    have hz0 : w.heap.size < wr.heap.size := by omega
    by_cases hlt : k < n
    · obtain ⟨b1, o1, rfl, hb1, s1⟩ := (HS.out.later HW.out).at k hlt
      obtain ⟨b2, o2, rfl, hb2, s2⟩ := (HT.out.later HW.out).at k hlt
      obtain ⟨p0, p1, p2, p3, p4, p5, p6⟩ := s1
      obtain ⟨q0, q1, q2, q3, q4, q5, q6⟩ := s2
      generalize sx L k = x at p0 p1 p2 p3 p4 p5 p6 q0 q1 q2 q3 q4 q5 q6
      go_wp2_with fail
      go_quiet (fail)
      go_wp2_with fail
      go_roundw
      case rel => exact ⟨k + 1, by omega, by go_num, by simpa using C1.out, by simpa using C2.out, by simpa using hz, (by repeat (first | (with_reducible exact Later.refl _) | (with_reducible exact Hid.out (by assumption)) | (with_reducible refine Later.alloc ?_ _) | (with_reducible refine Later.setCell ?_ (by simp; omega) _) | (with_reducible refine Later.setCell ?_ (by simp) _) | (with_reducible refine Later.drewN ?_ _) | (with_reducible refine Later.drew ?_) | (with_reducible refine Later.trans ?_ (Hid.out (by assumption)))))⟩
      case measure => simp [intOf]; omega
    · obtain rfl : k = n := by omega
      go_wp2_with fail
      go_ret
      exact ⟨rfl, HW.out⟩
end Go.Proofs.YtkhhoajoionlfaaGreatDoor
namespace Go.Proofs.YtkhhoajoionlfaaGreatDoor
open Go.RowKit Go.Shelf
set_option maxHeartbeats 8000000
set_option linter.unusedVariables false
set_option linter.unusedSimpArgs false
/-- the four variables that hold layouts -/
def Four (A B C D : World) (u v x y : Value) (W : World) : Prop :=
  (W.cell? ⟨A.heap.size, 0, none⟩ = some u ∧ A.heap.size < W.heap.size) ∧ (W.cell? ⟨B.heap.size, 0, none⟩ = some v ∧ B.heap.size < W.heap.size) ∧ (W.cell? ⟨C.heap.size, 0, none⟩ = some x ∧ C.heap.size < W.heap.size) ∧ (W.cell? ⟨D.heap.size, 0, none⟩ = some y ∧ D.heap.size < W.heap.size)
theorem Four.later {A B C D W W' : World} {u v x y : Value} (h : Four A B C D u v x y W) (k : Later W W') : Four A B C D u v x y W' := ⟨cell_up h.1 k, cell_up h.2.1 k, cell_up h.2.2.1 k, cell_up h.2.2.2 k⟩
set_option maxRecDepth 100000 in
theorem walk_FnLayouts (a0 : Option Addr) (len0 cap0 : Nat) (z0 : List Int) (w : World) (w0 : IsRow .u8 w a0 len0 cap0 z0) (hx : Tab w ∧ MaxL w ∧ Errs w) :
    Calls Tryz.prog 3 #[.slice a0 len0 cap0] w fun e w' => e = .returned (.bool true) ∧ Below w.heap.size w w' := by
  have HS := Lib.hid (isRow_bytes w0)
  have HT := Lib.hid hx.1; have HM := Lib.hid hx.2.1; have HE := Lib.hid hx.2.2
  clear w0 hx
  by_cases hbig : 4096 < len0
  · go_enter Tryz.func3, Tryz.ntmps3
    go_wp2_with fail
    refine (l_big _ _ _ _).mono ?_
    rintro e w' ⟨rfl, rfl⟩
    go_wp2
    go_ret
    exact ⟨rfl, Below.refl _ _⟩
  · go_enter Tryz.func3, Tryz.ntmps3
    go_wp2_with fail
    refine (l_big _ _ _ _).mono ?_
    rintro e w' ⟨rfl, rfl⟩
    go_wp2_with fail
    refine (s_DrawLayoutText _ _ _ _ HS.out).mono ?_
    rintro e w1 ⟨a, n, cap, L, rfl, hl, hcap, h26, bel⟩
    have L1 := Lib.hid hl
    have B1 : Hid (Later w w1) := Lib.hid bel
    clear hl bel hbig
    go_wp2_with fail
    refine (i_LayoutText a n cap L _ (L1.out.later ((Later.refl _).alloc _)) (HT.out.later (Later.alloc B1.out _))).mono ?_
    rintro e w2 ⟨rfl, hb0⟩
    have hb : Later _ w2 := hb0
    have B2 := Lib.hid (Later.trans (Later.alloc B1.out _) hb)
    have L2 := Lib.hid (L1.out.later (Later.trans ((Later.refl w1).alloc _) hb))
    have C2 := Lib.hid (cell_up (b := w1.heap.size) (v := .slice a n cap) ⟨by simp, by simp⟩ hb)
    have ht6 := layTx_len L L1.out.2.2.2
    rw [← tx_size] at ht6
    clear hb hb0
    go_wp2_with fail
    refine (i_ReadU _ _ (by omega) (HT.out.later B2.out) (HM.out.later B2.out) (HE.out.lat B2.out)).mono ?_
    rintro e w3 ⟨ok, ax, nx, cx, Lx, rfl, hsx, hb, h1, h2⟩
    have HO := Lib.hid (rdU_own (L := L) h1 h2)
    have B3 := Lib.hid (Later.trans B2.out hb)
    have L3 := Lib.hid (L2.out.later hb)
    have C3 := Lib.hid (cell_up C2.out hb)
    have X3 := Lib.hid hsx
    clear hsx hb h1 h2
    go_wp2_with fail
    have D4 := Lib.hid (show (w3.alloc (.cells #[.slice ax nx cx] 26)).cell? ⟨w3.heap.size, 0, none⟩ = some (.slice ax nx cx) ∧ w3.heap.size < (w3.alloc (.cells #[.slice ax nx cx] 26)).heap.size from ⟨by simp, by simp⟩)
    refine (s_DrawReadLayout _ _ _ _ (HS.out.later (Later.alloc B3.out _))).mono ?_
    rintro e w5 ⟨s, rfl, hs6, hb0⟩
    have hb : Later _ w5 := hb0
    have hb' := Later.trans ((Later.refl w3).alloc _) hb
    have B5 := Lib.hid (Later.trans B3.out hb')
    have L5 := Lib.hid (L3.out.later hb')
    have C5 := Lib.hid (cell_up C3.out hb')
    have D5 := Lib.hid (cell_up D4.out hb)
    have X5 := Lib.hid (X3.out.later hb')
    clear hb hb0 hb'
    go_wp2_with fail
    refine (i_ReadU _ _ (by omega) (HT.out.later B5.out) (HM.out.later B5.out) (HE.out.lat B5.out)).mono ?_
    rintro e w6 ⟨two, ay, ny, cy, Ly, rfl, hsy, hb, h1, h2⟩
    have K1 := Lib.hid h1; have K2 := Lib.hid h2
    have B6 := Lib.hid (Later.trans B5.out hb)
    have L6 := Lib.hid (L5.out.later hb)
    have C6 := Lib.hid (cell_up C5.out hb)
    have D6 := Lib.hid (cell_up D5.out hb)
    have X6 := Lib.hid (X5.out.later hb)
    have Y6 := Lib.hid hsy
    clear hb h1 h2 hsy
    have E7 := Lib.hid (show (w6.alloc (.cells #[.slice ay ny cy] 26)).cell? ⟨w6.heap.size, 0, none⟩ = some (.slice ay ny cy) ∧ w6.heap.size < (w6.alloc (.cells #[.slice ay ny cy] 26)).heap.size from ⟨by simp, by simp⟩)
    go_wp2_with fail
    refine (s_ReadU _ _ (by omega)).mono ?_
    rintro e w8 ⟨three, az, nz, cz, Lz, rfl, hsz, hb, h1, h2⟩
    obtain ⟨rfl, rfl⟩ := rdU_same K1.out K2.out h1 h2
    have hb' := Later.trans ((Later.refl w6).alloc _) hb
    have B8 := Lib.hid (Later.trans B6.out hb')
    have L8 := Lib.hid (L6.out.later hb')
    have C8 := Lib.hid (cell_up C6.out hb')
    have D8 := Lib.hid (cell_up D6.out hb')
    have E8 := Lib.hid (cell_up E7.out hb)
    have X8 := Lib.hid (X6.out.later hb')
    have Y8 := Lib.hid (Y6.out.later hb')
    have Z8 := Lib.hid hsz
    clear hb hb' h1 h2 hsz
    have Z9 := Lib.hid (show (w8.alloc (.cells #[.slice az nz cz] 26)).cell? ⟨w8.heap.size, 0, none⟩ = some (.slice az nz cz) ∧ w8.heap.size < (w8.alloc (.cells #[.slice az nz cz] 26)).heap.size from ⟨by simp, by simp⟩)
    have U8 := Lib.hid ((Later.refl w8).alloc (.cells #[.slice az nz cz] 26))
    have F9 : Hid (Four w1 w3 w6 w8 (.slice a n cap) (.slice ax nx cx) (.slice ay ny cy) (.slice az nz cz) (w8.alloc (.cells #[.slice az nz cz] 26))) := Lib.hid ⟨cell_up C8.out U8.out, cell_up D8.out U8.out, cell_up E8.out U8.out, Z9.out⟩
    go_wp2_with fail
    refine into (fun W => Four w1 w3 w6 w8 (.slice a n cap) (.slice ax nx cx) (.slice ay ny cy) (.slice az nz cz) W ∧ Later w8 W) ⟨F9.out, U8.out⟩ ?_
    intro W ⟨hF, hW⟩
    have FW := Lib.hid hF
    have W8 := Lib.hid hW
    have LW := Lib.hid (L8.out.later hW)
    clear hF hW
    have eo : (ok != ok) = false := by simp
    go_region_held3 (fun w' => w'.cell? ⟨w1.heap.size, 0, none⟩ = some (.slice a n cap))
      (exact (cell_up FW.out.1 (by repeat (first | (with_reducible exact Later.refl _) | (with_reducible exact Hid.out (by assumption)) | (with_reducible refine Later.alloc ?_ _) | (with_reducible refine Later.setCell ?_ (by simp) _) | (with_reducible refine Later.drewN ?_ _) | (with_reducible refine Later.drew ?_) | (with_reducible refine Later.trans ?_ (Hid.out (by assumption)))))).1)
      (first
        | (go_at_call 10; refine (s_LayoutText _ _ _ L _ (LW.out.later (by repeat (first | (with_reducible exact Later.refl _) | (with_reducible exact Hid.out (by assumption)) | (with_reducible refine Later.alloc ?_ _) | (with_reducible refine Later.setCell ?_ (by simp) _) | (with_reducible refine Later.drewN ?_ _) | (with_reducible refine Later.drew ?_) | (with_reducible refine Later.trans ?_ (Hid.out (by assumption))))))).mono ?_; rintro e w9 ⟨rfl, hb0⟩; have H9 := Lib.hid (show Later _ w9 from hb0); clear hb0)
        | (go_at_call 11; refine (i_IsLayout _ _ _ L _ (LW.out.later (by repeat (first | (with_reducible exact Later.refl _) | (with_reducible exact Hid.out (by assumption)) | (with_reducible refine Later.alloc ?_ _) | (with_reducible refine Later.setCell ?_ (by simp) _) | (with_reducible refine Later.drewN ?_ _) | (with_reducible refine Later.drew ?_) | (with_reducible refine Later.trans ?_ (Hid.out (by assumption))))))).mono ?_; rw [← HO.out.1]; rintro e w9 ⟨rfl, hb0⟩; have H9 := Lib.hid (show Later _ w9 from hb0); clear hb0)
        | (go_at_call 12; refine (s_IsLayout _ _ _ L _ (LW.out.later (by repeat (first | (with_reducible exact Later.refl _) | (with_reducible exact Hid.out (by assumption)) | (with_reducible refine Later.alloc ?_ _) | (with_reducible refine Later.setCell ?_ (by simp) _) | (with_reducible refine Later.drewN ?_ _) | (with_reducible refine Later.drew ?_) | (with_reducible refine Later.trans ?_ (Hid.out (by assumption))))))).mono ?_; rw [← HO.out.1]; rintro e w9 ⟨rfl, hb0⟩; have H9 := Lib.hid (show Later _ w9 from hb0); clear hb0))
    all_goals
      refine then_into (fun X => Four w1 w3 w6 w8 (.slice a n cap) (.slice ax nx cx) (.slice ay ny cy) (.slice az nz cz) X ∧ Later W X) ⟨FW.out.later (by repeat (first | (with_reducible exact Later.refl _) | (with_reducible exact Hid.out (by assumption)) | (with_reducible refine Later.alloc ?_ _) | (with_reducible refine Later.setCell ?_ (by simp) _) | (with_reducible refine Later.drewN ?_ _) | (with_reducible refine Later.drew ?_) | (with_reducible refine Later.trans ?_ (Hid.out (by assumption))))), (by repeat (first | (with_reducible exact Later.refl _) | (with_reducible exact Hid.out (by assumption)) | (with_reducible refine Later.alloc ?_ _) | (with_reducible refine Later.setCell ?_ (by simp) _) | (with_reducible refine Later.drewN ?_ _) | (with_reducible refine Later.drew ?_) | (with_reducible refine Later.trans ?_ (Hid.out (by assumption)))))⟩ ?_
      intro V ⟨hF, hW⟩
      have V8 := Lib.hid (Later.trans W8.out hW)
      have BV := Lib.hid (Later.trans B8.out V8.out)
      have LV := Lib.hid (LW.out.later hW)
      have XV := Lib.hid (X8.out.later V8.out)
      have YV := Lib.hid (Y8.out.later V8.out)
      have ZV := Lib.hid (Z8.out.later V8.out)
      obtain ⟨⟨f1, f1z⟩, ⟨f2, f2z⟩, ⟨f3, f3z⟩, ⟨f4, f4z⟩⟩ := hF
      have G1 := Lib.hid (show V.cell? ⟨w6.heap.size, 0, none⟩ = some (.slice ay ny cy) ∧ w6.heap.size < V.heap.size from ⟨f3, f3z⟩)
      have G2 := Lib.hid (show V.cell? ⟨w8.heap.size, 0, none⟩ = some (.slice az nz cz) ∧ w8.heap.size < V.heap.size from ⟨f4, f4z⟩)
      clear hW
      have hTV := Lib.hid (HT.out.later BV.out)
      cases ok <;> cases three
      · go_wp2_with fail
        have N1 := Lib.hid (Later.refl V)
        refine (l_likeLayouts _ _ _ _ _ _ Lz _ (YV.out.later N1.out) (ZV.out.later N1.out)).mono ?_
        rintro e v2 ⟨rfl, hb⟩
        have N2 := Lib.hid (Later.trans N1.out hb)
        have y2 := cell_up G1.out N2.out
        have y2c := y2.1
        clear hb
        go_wp2_with fail
        go_ret
        exact ⟨rfl, by first | exact Later.trans BV.out N2.out | exact (Later.trans BV.out N2.out).drew⟩
      · go_wp2_with fail
        have N1 := Lib.hid (Later.refl V)
        refine (l_likeLayouts _ _ _ _ _ _ Lz _ (YV.out.later N1.out) (ZV.out.later N1.out)).mono ?_
        rintro e v2 ⟨rfl, hb⟩
        have N2 := Lib.hid (Later.trans N1.out hb)
        have y2 := cell_up G1.out N2.out
        have y2c := y2.1
        clear hb
        go_wp2_with fail
        refine (i_LayoutText _ _ _ Lz _ (YV.out.later N2.out) (hTV.out.later N2.out)).mono ?_
        rintro e v3 ⟨rfl, hb0⟩
        have N3 := Lib.hid (Later.trans N2.out (show Later _ v3 from hb0))
        clear hb0
        have e1 : ((tx (layTx Lz)).toList == s.toList) = true := by
          have h := K1.out (by first | rfl | trivial)
          have e2 : layTx Lz = linTx Lz := by unfold layTx; rw [if_pos h.1]
          rw [Lib.toList_data, Lib.toList_data, h.2, e2]; simp [tx]
        go_wp2_with fail
        go_ret
        exact ⟨rfl, by first | exact Later.trans BV.out N3.out | exact (Later.trans BV.out N3.out).drew⟩
      · go_wp2_with fail
        obtain rfl := HO.out.2 (by first | rfl | trivial)
        refine (l_likeLayouts _ _ _ _ _ _ Lx _ XV.out LV.out).mono ?_
        rintro e v1 ⟨rfl, hb⟩
        have N1 := Lib.hid hb
        have y1 := cell_up G1.out hb
        have z1 := cell_up G2.out hb
        have y1c := y1.1; have z1c := z1.1
        clear hb
        go_wp2_with fail
        refine (l_likeLayouts _ _ _ _ _ _ Lz _ (YV.out.later N1.out) (ZV.out.later N1.out)).mono ?_
        rintro e v2 ⟨rfl, hb⟩
        have N2 := Lib.hid (Later.trans N1.out hb)
        have y2 := cell_up G1.out N2.out
        have y2c := y2.1
        clear hb
        go_wp2_with fail
        go_ret
        exact ⟨rfl, by first | exact Later.trans BV.out N2.out | exact (Later.trans BV.out N2.out).drew⟩
      · go_wp2_with fail
        obtain rfl := HO.out.2 (by first | rfl | trivial)
        refine (l_likeLayouts _ _ _ _ _ _ Lx _ XV.out LV.out).mono ?_
        rintro e v1 ⟨rfl, hb⟩
        have N1 := Lib.hid hb
        have y1 := cell_up G1.out hb
        have z1 := cell_up G2.out hb
        have y1c := y1.1; have z1c := z1.1
        clear hb
        go_wp2_with fail
        refine (l_likeLayouts _ _ _ _ _ _ Lz _ (YV.out.later N1.out) (ZV.out.later N1.out)).mono ?_
        rintro e v2 ⟨rfl, hb⟩
        have N2 := Lib.hid (Later.trans N1.out hb)
        have y2 := cell_up G1.out N2.out
        have y2c := y2.1
        clear hb
        go_wp2_with fail
        refine (i_LayoutText _ _ _ Lz _ (YV.out.later N2.out) (hTV.out.later N2.out)).mono ?_
        rintro e v3 ⟨rfl, hb0⟩
        have N3 := Lib.hid (Later.trans N2.out (show Later _ v3 from hb0))
        clear hb0
        have e1 : ((tx (layTx Lz)).toList == s.toList) = true := by
          have h := K1.out (by first | rfl | trivial)
          have e2 : layTx Lz = linTx Lz := by unfold layTx; rw [if_pos h.1]
          rw [Lib.toList_data, Lib.toList_data, h.2, e2]; simp [tx]
        go_wp2_with fail
        go_ret
        exact ⟨rfl, by first | exact Later.trans BV.out N3.out | exact (Later.trans BV.out N3.out).drew⟩
end Go.Proofs.YtkhhoajoionlfaaGreatDoor
