/- Contracts of chapter 3: where segments begin, of the program. -/
import Derived.Test.YtkgjojnngankeaaSgI
import Derived.Test.YtkgjojnngankeaaSgO
import Derived.RegionTactic
import Derived.IntWalk
namespace Go.Proofs.Ytkgjojnngankeaa
open Go.RowKit
set_option maxHeartbeats 2000000
set_option linter.unusedVariables false
set_option linter.unusedSimpArgs false
theorem made_own {base n : Nat} {v : Value} {w1 w2 : World} (hown : w2.ownsRow base 2 1 v n (madeCells (Value.int .i64 0).cells (n * 1)).toList) (hgrow : w1.grownBy w2 none) :
    Hid (w2.ownsRow base 2 1 v n ((List.replicate n (0 : Int)).map (Value.int .i64))) ∧ Hid (Later w1 w2) :=
  ⟨Lib.hid (by rw [List.map_replicate, ← toList_madeCells_one]; simpa [Value.cells] using hown), Lib.hid ((Below.refl _ _).grown hgrow (Nat.le_refl _) (by simp))⟩
set_option maxRecDepth 100000 in
theorem i_SegmentStarts (a : Option Addr) (n cap : Nat) (L : List Sg) (w : World) (hs : Sgs w a n L) (hcap : n ≤ cap) :
    Calls Try.prog 16 #[.agg #[.slice a n cap]] w (Started w L) := by
  have HS := Lib.hid hs
  have HL := Lib.hid hs.1
  have hn := hs.2.1
  clear hs
  cases hv : layB L
  · have HT : Hid (strs L = [] ∧ tlE L = 1) := Lib.hid (by unfold strs tlE; rw [hv]; simp)
    go_enter Try.func16, Try.ntmps16
    go_wp2_with (go_at_call 29; refine (i_IsLayout a n cap L _ (HS.out.later ((Later.refl _).alloc _))).mono ?_; rw [hv]; rintro e w1 ⟨rfl, hb⟩; obtain ⟨H, hcc, hff, hzz⟩ := later_facts hb; clear hb; (try simp at hzz); (try simp only [World.heap_drewN, World.cell?_drewN, World.frozen?_drewN] at hcc hff))
    go_ret2
    exact ⟨.slice none 0 0, by rw [HT.out.2]; rfl, by rw [HT.out.1]; exact own_none _ _, (by repeat (first | exact Later.refl _ | exact Hid.out (by assumption) | refine Later.set_at ?_ ?_ _ _ | refine Later.alloc ?_ _ | refine Later.drewN ?_ _ | refine Later.drew ?_ | refine Later.trans ?_ (Hid.out (by assumption))))⟩
  · have HO := Lib.hid ((layB_iff L).1 hv).2.2.1
    have HV := Lib.hid hv
    have HT : Hid (strs L = (List.range n).map (upL L) ∧ tlE L = 0) := Lib.hid (by unfold strs tlE; rw [hv, HL.out]; simp)
    have h24 := ((layB_iff L).1 hv).2.1
    have h3 := ((layB_iff L).1 hv).1
    rw [HL.out] at h24 h3
    obtain ⟨i0, hi, hz0, hz1, hz2⟩ := info_parts info_i64
    have HI := Lib.hid hi; clear hi
    have HZ0 := Lib.hid hz0; clear hz0
    have HZ1 := Lib.hid hz1; clear hz1
    have HZ2 := Lib.hid hz2; clear hz2
    go_enter Try.func16, Try.ntmps16
    go_wp2_with fail
    refine (i_IsLayout a n cap L _ (HS.out.later ((Later.refl _).alloc _))).mono ?_
    rw [hv]
    rintro e w1 ⟨rfl, hb⟩
    obtain ⟨H, hcc, hff, hzz⟩ := later_facts hb
    have W1 : Hid (Later w w1) := Lib.hid (((Later.refl _).alloc _).trans hb)
    have hsz : w.heap.size < w1.heap.size := by simp at hzz; omega
    have cb : w1.cell? ⟨w.heap.size, 0, none⟩ = some (.slice a n cap) := by rw [hcc _ _ (by simp)]; simp
    clear hb hzz hv hcc hff H
    go_wp2_with (refine wpList_make_full _ rfl _ _ _ rfl w.heap.size 2 i0 (.int .i64 0) 1 Try.underlying31 HI.out HZ0.out HZ1.out _ _ _ _ n rfl rfl rfl rfl (by rw [HZ2.out]; omega) (by unfold maxLen; omega) (by omega) ?_; intro w2 hown hgrow; obtain ⟨O2, W2⟩ := made_own hown hgrow; clear hown hgrow; have cb2 : w2.cell? ⟨w.heap.size, 0, none⟩ = some (.slice a n cap) := (W2.out.cell (p := ⟨w.heap.size, 0, none⟩) hsz).trans cb)
    have W3 := Lib.hid (W1.out.trans W2.out)
    have O3 : Hid (w2.ownsRow w.heap.size 2 1 (.slice (some ⟨w1.heap.size, 0, none⟩) n n) n ((sPart L n 0).map (Value.int .i64))) := Lib.hid (by rw [sPart_0]; exact O2.out)
    clear cb cb2 W1 O2
    go_loopw [22] (fun i wr => ∃ k : Nat, k ≤ n - 1 ∧ i = .int .i64 k ∧ wr.ownsRow w.heap.size 2 1 (.slice (some ⟨w1.heap.size, 0, none⟩) n n) n ((sPart L n k).map (Value.int .i64)) ∧ Later w wr ∧ w1.heap.size < wr.heap.size) (fun i _ => n - (intOf i).toNat)
    case atStart => exact ⟨0, by omega, rfl, O3.out, W3.out, O3.out.lt w1.heap.size rfl |>.2⟩
    case round =>
      clear O3 W3
      obtain ⟨k, hk, rfl, ho, hw, hg⟩ := hrel
      have HR := Lib.hid ho; have HW := Lib.hid hw
      clear ho hw
      obtain ⟨_, _, bd1, bd2⟩ := up_bd L k (by rw [HL.out]; omega) (okB_le L L.length k (by rw [HL.out]; omega) HO.out)
      by_cases hlt : k < n - 1
      · obtain ⟨b', off', rfl, hb', hc⟩ := (HS.out.later HW.out).at k (by omega)
        obtain ⟨c0, c1, c2, c3, c4, c5, c6⟩ := hc
        have hr := (sgB_iff _).1 (okB_at L L.length k (Nat.le_refl _) (by rw [HL.out]; omega) HO.out)
        have r1 := hr.2.1.1; have r2 := hr.2.1.2
        clear hr
        have d0 : wr.cell? ⟨w1.heap.size, k, none⟩ = some (.int .i64 (upL L k)) := by rw [HR.out.cellAt k (by omega), List.getElem?_map, sPart_get L n k k (by omega), if_pos (Nat.le_refl _)]; rfl
        have d1 : wr.cell? ⟨w1.heap.size, k + 1, none⟩ = some (.int .i64 0) := by rw [HR.out.cellAt (k + 1) (by omega), List.getElem?_map, sPart_get L n k (k + 1) (by omega), if_neg (by omega)]; rfl
        have hset : Hid (((sPart L n k).map (Value.int .i64)).set (k + 1) (.int .i64 (upL L k + (sx L k).l)) = (sPart L n (k + 1)).map (Value.int .i64)) := Lib.hid (by rw [← sPart_set L n k (by omega), upL_succ L k (by rw [HL.out]; omega), List.map_set])
        have f0 : wr.frozen? ⟨w1.heap.size, k + 1, none⟩ = false := HR.out.frozenAt (k + 1)
        go_wp2_with fail
        go_region
        go_wp2_with fail
        go_roundw
        case rel =>
          refine ⟨k + 1, by omega, by go_num, ?_, ?_, ?_⟩
          · rw [← hset.out]
            exact (HR.out.stored (k + 1) _).1.alloc _
          · exact ((HW.out.setCell (p := ⟨w1.heap.size, k + 1, none⟩) (Nat.le_of_lt hsz) _).alloc _).drew
          · simp; omega
        case measure => simp [intOf]; omega
      · obtain rfl : k = n - 1 := by omega
        clear bd1 bd2
        go_wp2
        go_ret2
        refine ⟨_, by rw [HT.out.2]; rfl, ⟨?_, strs_in HV.out⟩, HW.out⟩
        have h := HR.out
        rw [sPart_full L n (n - 1) (by omega)] at h
        rw [HT.out.1]
        simpa using h
end Go.Proofs.Ytkgjojnngankeaa
