/- The text of a layout, of the model. -/
import Derived.Test.YtkgjojnngankeaaDoorTxQ
import Derived.Test.YtkgjojnngankeaaDoorSgU
namespace Go.Proofs.YtkgjojnngankeaaDoor
open Go.RowKit Go.Shelf
set_option maxHeartbeats 4000000
set_option linter.unusedVariables false
set_option linter.unusedSimpArgs false
theorem s_LayoutText (a : Option Addr) (n cap : Nat) (L : List Sg) (w : World) (hs : Sgs w a n L) :
    Calls Tryd.prog 6 #[.agg #[.slice a n cap]] w (Texts w (layTx L)) := by
  have HS := Lib.hid hs
  have HL := Lib.hid hs.1
  have hn := hs.2.1
  have HI := Lib.hid hs.2.2.2
  clear hs
  cases hv : layB L
  · have HT : Hid (layTx L = []) := Lib.hid (by unfold layTx; rw [hv]; simp)
    go_enter Tryd.func6, Tryd.ntmps6
    go_wp2_with (go_at_call 15; refine (s_IsLayout a n cap L _ (HS.out.later ((Later.refl _).alloc _))).mono ?_; rw [hv]; rintro e w1 ⟨rfl, hb⟩; obtain ⟨H, hcc, hff, hzz⟩ := later_facts hb; clear hb; (try simp at hzz); (try simp only [World.heap_drewN, World.cell?_drewN, World.frozen?_drewN] at hcc hff))
    go_ret
    exact ⟨by rw [HT.out]; rfl, Later.trans ((Later.refl _).alloc _) H.out⟩
  · have HO := Lib.hid ((layB_iff L).1 hv).2.2.1
    have HX : Hid (layTx L = linTx L) := Lib.hid (by unfold layTx; rw [hv]; simp)
    have h24 := ((layB_iff L).1 hv).2.1
    rw [HL.out] at h24
    go_enter Tryd.func6, Tryd.ntmps6
    go_wp2_with (go_at_call 15; refine (s_IsLayout a n cap L _ (HS.out.later ((Later.refl _).alloc _))).mono ?_; rw [hv]; rintro e w1 ⟨rfl, hb⟩; obtain ⟨H, hcc, hff, hzz⟩ := later_facts hb; clear hb; (try simp at hzz); have hz0 : w.heap.size < w1.heap.size := (by omega); (try simp only [World.heap_drewN, World.cell?_drewN, World.frozen?_drewN] at hcc hff))
    clear hv
    have B1 := Lib.hid (Later.trans ((Later.refl w).alloc _) H.out)
    have C1 : Hid (w1.cell? ⟨w.heap.size, 0, none⟩ = some (.slice a n cap)) := Lib.hid (by rw [hcc _ _ (by simp)]; simp)
    clear hcc hff hzz
    go_loopw [3, 4] (fun s i wr => ∃ k : Nat, k ≤ n ∧ i = .int .i64 k ∧ s = .string (tx (linTx (L.take k))) ∧ wr.cell? ⟨w.heap.size, 0, none⟩ = some (.slice a n cap) ∧ w.heap.size < wr.heap.size ∧ Later w wr) (fun _ i _ => n - (intOf i).toNat)
    case atStart => exact ⟨0, by omega, rfl, rfl, C1.out, hz0, B1.out⟩
    case round =>
      obtain ⟨k, hk, rfl, rfl, cb, hsz, hlw⟩ := hrel
      have HW := Lib.hid hlw; have HCB := Lib.hid cb
      clear hlw
      by_cases hlt : k < n
      · obtain ⟨b', off', rfl, hb', hc⟩ := (HS.out.later HW.out).at k hlt
        obtain ⟨c0, c1, c2, c3, c4, c5, c6⟩ := hc
        have HG : Hid (sgB (sx L k) = true) := Lib.hid (okB_at L L.length k (Nat.le_refl _) (by rw [HL.out]; exact hlt) HO.out)
        have hin : Hid ((sx L k).In) := Lib.hid (HS.out.in k hlt)
        have hls : (tx (segTx (sx L k))).size ≤ 200 := segTx_len _ hin.out
        have hln : (tx (linTx (L.take k))).size ≤ 4824 := (by
          have h1 := linTx_len (L.take k) (fun x hx => HI.out x (List.mem_of_mem_take hx))
          have h2 : (L.take k).length ≤ 24 := by rw [List.length_take]; omega
          rw [tx_size]; omega)
        go_wp2_with fail
        refine (s_Line (sx L k) HG.out hin.out _).mono ?_
        rintro e w4 ⟨rfl, hb4⟩
        have B4 := Lib.hid (Later.trans HW.out (Later.trans (by repeat (first | (with_reducible exact Later.refl _) | refine Later.alloc ?_ _ | refine Later.drewN ?_ _ | refine Later.drew ?_)) hb4))
        obtain ⟨H4, hcc, hff, hzz⟩ := later_facts hb4
        clear hb4 c0 c1 c2 c3 c4 c5 c6
        (try simp at hzz)
        go_wp2_with fail
        go_roundw
        case rel =>
          refine ⟨k + 1, by omega, by go_num, ?_, by rw [hcc _ _ (by simpa using hsz)]; simpa using HCB.out, by omega, B4.out⟩
          show Value.string (tx (linTx (L.take k)) ++ tx (segTx (sx L k)) ++ tx [10]) = _
          rw [tx_app, tx_app, linTx_succ L k (by rw [HL.out]; exact hlt), List.append_assoc]
        case measure => simp [intOf]; omega
      · obtain rfl : k = n := by omega
        have hT : Hid (linTx (L.take k) = layTx L) := Lib.hid (by rw [HX.out, List.take_of_length_le (by rw [HL.out]; omega)])
        go_wp2_with fail
        go_ret
        exact ⟨congrArg (fun s => Ending.returned (.string (tx s))) hT.out, HW.out⟩
end Go.Proofs.YtkgjojnngankeaaDoor
