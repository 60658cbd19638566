/- The text of a layout, of the program. -/
import Derived.Test.YtkhhoajoionlfaaDoorTxI
import Derived.Test.YtkhhoajoionlfaaDoorBld
import Derived.Test.YtkhhoajoionlfaaDoorSgI
namespace Go.Proofs.YtkhhoajoionlfaaDoor
open Go.RowKit Go.Shelf
set_option maxHeartbeats 4000000
set_option linter.unusedVariables false
set_option linter.unusedSimpArgs false
theorem i_LayoutText (a : Option Addr) (n cap : Nat) (L : List Sg) (w : World) (hs : Sgs w a n L) (ht : Tab w) :
    Calls Tryd.prog 15 #[.agg #[.slice a n cap]] w (Texts w (layTx L)) := by
  have HS := Lib.hid hs
  have HL := Lib.hid hs.1
  have HT := Lib.hid ht
  have hn := hs.2.1
  have HI := Lib.hid hs.2.2.2
  clear hs ht
  cases hv : layB L
  · have HT : Hid (layTx L = []) := Lib.hid (by unfold layTx; rw [hv]; simp)
    go_enter Tryd.func15, Tryd.ntmps15
    go_wp2_with (go_at_call 14; refine (i_IsLayout a n cap L _ (HS.out.later ((Later.refl _).alloc _))).mono ?_; rw [hv]; rintro e w1 ⟨rfl, hb⟩; obtain ⟨H, hcc, hff, hzz⟩ := later_facts hb; clear hb; (try simp at hzz); have hz0 : w.heap.size < w1.heap.size := (by omega); (try simp only [World.heap_drewN, World.cell?_drewN, World.frozen?_drewN] at hcc hff))
    go_ret
    exact ⟨by rw [HT.out]; rfl, Later.trans ((Later.refl _).alloc _) H.out⟩
  · have HO := Lib.hid ((layB_iff L).1 hv).2.2.1
    have HX : Hid (layTx L = linTx L) := Lib.hid (by unfold layTx; rw [hv]; simp)
    have h24 := ((layB_iff L).1 hv).2.1
    rw [HL.out] at h24
    go_enter Tryd.func15, Tryd.ntmps15
    go_wp2_with (go_at_call 14; refine (i_IsLayout a n cap L _ (HS.out.later ((Later.refl _).alloc _))).mono ?_; rw [hv]; rintro e w1 ⟨rfl, hb⟩; obtain ⟨H, hcc, hff, hzz⟩ := later_facts hb; clear hb; (try simp at hzz); have hz0 : w.heap.size < w1.heap.size := (by omega); (try simp only [World.heap_drewN, World.cell?_drewN, World.frozen?_drewN] at hcc hff))
    clear hv
    have B1 := Lib.hid (Later.trans ((Later.refl w).alloc _) H.out)
    have N1 := Lib.hid (bld_new w1)
    have hbz : Hid (w.heap.size ≤ w1.heap.size) := Lib.hid B1.out.size
    clear hcc hff hzz
    go_loopw [12] (fun i wr => ∃ k : Nat, k ≤ n ∧ i = .int .i64 k ∧ Bld wr w1.heap.size (linTx (L.take k)) ∧ Later w wr) (fun i _ => n - (intOf i).toNat)
    case atStart => exact ⟨0, by omega, rfl, N1.out, B1.out.alloc _⟩
    case round =>
      obtain ⟨k, hk, rfl, hbl, hlw⟩ := hrel
      have HB := Lib.hid hbl; have HW := Lib.hid hlw; have HZ := Lib.hid hlw.size
      have T3 := Lib.hid (HT.out.later hlw)
      clear hbl hlw
      by_cases hlt : k < n
      · obtain ⟨b', off', rfl, hb', hc⟩ := (HS.out.later HW.out).at k hlt
        obtain ⟨c0, c1, c2, c3, c4, c5, c6⟩ := hc
        have hr := (sgB_iff _).1 (okB_at L L.length k (Nat.le_refl _) (by rw [HL.out]; exact hlt) HO.out)
        have hkn : Hid (kndB (sx L k).k = true) := Lib.hid (by unfold kndB; simp; omega)
        have hin : Hid ((sx L k).In) := Lib.hid (HS.out.in k hlt)
        have hls : Hid ((segTx (sx L k)).length ≤ 200) := Lib.hid (segTx_len _ hin.out)
        have hln : Hid ((linTx (L.take k)).length ≤ 4824) := Lib.hid (by
          have h1 := linTx_len (L.take k) (fun x hx => HI.out x (List.mem_of_mem_take hx))
          have h2 : (L.take k).length ≤ 24 := by rw [List.length_take]; omega
          omega)
        clear hr
        go_wp2_with fail
        refine (i_segmentText (sx L k) hin.out hkn.out _ (T3.out.later (by repeat (first | (with_reducible exact Later.refl _) | (with_reducible exact Hid.out (by assumption)) | refine Later.set_at ?_ ?_ _ _ | refine Later.alloc ?_ _ | refine Later.drewN ?_ _ | refine Later.drew ?_ | refine Later.trans ?_ (Hid.out (by assumption)))))).mono ?_
        rintro e w4 ⟨rfl, hb4⟩
        have N4 := Lib.hid (HB.out.later (Later.trans (by repeat (first | (with_reducible exact Later.refl _) | (with_reducible exact Hid.out (by assumption)) | refine Later.set_at ?_ ?_ _ _ | refine Later.alloc ?_ _ | refine Later.drewN ?_ _ | refine Later.drew ?_ | refine Later.trans ?_ (Hid.out (by assumption)))) hb4))
        have B4 := Lib.hid (Later.trans HW.out (Later.trans (by repeat (first | (with_reducible exact Later.refl _) | (with_reducible exact Hid.out (by assumption)) | refine Later.set_at ?_ ?_ _ _ | refine Later.alloc ?_ _ | refine Later.drewN ?_ _ | refine Later.drew ?_ | refine Later.trans ?_ (Hid.out (by assumption)))) hb4))
        clear hb4 c0 c1 c2 c3 c4 c5 c6
        go_wp2_with fail
        refine (b_WriteString _ _ _ _ N4.out (by have := hls.out; have := hln.out; omega)).mono ?_
        rintro e w5 ⟨rfl, hN, hb5⟩
        have N5 := Lib.hid hN
        have B5 : Hid (Later w w5) := Lib.hid (Below.trans B4.out (hb5.mono hbz.out))
        clear hN hb5
        go_wp2_with fail
        refine (b_WriteNL _ _ _ N5.out (by have := hls.out; have := hln.out; rw [List.length_append]; omega)).mono ?_
        rintro e w6 ⟨rfl, hN, hb6⟩
        have N6 := Lib.hid hN
        have B6 : Hid (Later w w6) := Lib.hid (Below.trans B5.out (hb6.mono hbz.out))
        clear hN hb6
        go_wp2_with fail
        go_roundw
        case rel => exact ⟨k + 1, by omega, by go_num, by rw [linTx_succ L k (by rw [HL.out]; exact hlt), ← List.append_assoc]; exact N6.out, B6.out⟩
        case measure => simp [intOf]; omega
      · obtain rfl : k = n := by omega
        have hT : Hid (linTx (L.take k) = layTx L) := Lib.hid (by rw [HX.out, List.take_of_length_le (by rw [HL.out]; omega)])
        go_wp2_with fail
        refine (b_String _ _ _ HB.out).mono ?_
        rintro e w4 ⟨rfl, hb4⟩
        have B4 : Hid (Later w w4) := Lib.hid (Below.trans HW.out (hb4.mono hbz.out))
        clear hb4
        go_wp2_with fail
        go_ret
        exact ⟨congrArg (fun s => Ending.returned (.string (tx s))) hT.out, B4.out⟩
end Go.Proofs.YtkhhoajoionlfaaDoor
