/- Copies of slices of int64 that may be written; marks from any number on. -/
import Derived.Test.YtdaihpkjnigjgaaDoorMem
import Derived.Test.YtdaihpkjnigjgaaDoorOwn
import Derived.Test.YtdaihpkjnigjgaaDoorMark
namespace Go.Proofs.YtdaihpkjnigjgaaDoor
open Go.RowKit
set_option maxHeartbeats 2000000
set_option linter.unusedVariables false
set_option linter.unusedSimpArgs false
def CopiedO (w : World) (n : Nat) (l : List Int) (e : Ending) (w' : World) : Prop :=
  ∃ g, e = .returned (.slice (some ⟨g, 0, none⟩) n n) ∧ w.heap.size ≤ g ∧ g < w'.heap.size ∧ Own w' w.heap.size (.slice (some ⟨g, 0, none⟩) n n) l ∧ Below w.heap.size w w'
theorem l_toInt64O (a : Option Addr) (n cap : Nat) (l : List Int) (w : World) (hs : Sl w a n l) (hn : n ≤ 1048576) :
    Calls Tryd.prog 37 #[.slice a n cap] w (CopiedO w n l) := by
  have HS := Lib.hid hs
  have HL := Lib.hid hs.1
  clear hs
  obtain ⟨i0, hi, hz0, hz1, hz2⟩ := info_parts info_i64
  have HI := Lib.hid hi; clear hi
  have HZ0 := Lib.hid hz0; clear hz0
  have HZ1 := Lib.hid hz1; clear hz1
  have HZ2 := Lib.hid hz2; clear hz2
  go_enter Tryd.func37, Tryd.ntmps37
  go_wp2_with (refine wpList_make_full _ rfl _ _ _ rfl w.heap.size 2 i0 (.int .i64 0) 1 Tryd.underlying24 HI.out HZ0.out HZ1.out _ _ _ _ n rfl rfl rfl rfl (by rw [HZ2.out]; omega) (by unfold maxLen; omega) (Nat.le_refl _) ?_; intro w1 hown hgrow)
  have hown' : w1.ownsRow w.heap.size 2 1 (.slice (some ⟨w.heap.size, 0, none⟩) n n) n (part l n 0) := by
    rw [part_zero, ← toList_madeCells_one]; simpa [Value.cells] using hown
  have hb1 : Below w.heap.size w w1 := (Below.refl _ _).grown hgrow (Nat.le_refl _) (by simp)
  have HO := Lib.hid hown'
  have HB := Lib.hid hb1
  clear hown hgrow hown' hb1
  go_loopw [4] (fun i wr => ∃ k : Nat, k ≤ n ∧ i = .int .i64 k ∧ wr.ownsRow w.heap.size 2 1 (.slice (some ⟨w.heap.size, 0, none⟩) n n) n (part l n k) ∧ Below w.heap.size w wr) (fun i _ => n - (intOf i).toNat)
  case atStart => exact ⟨0, by omega, rfl, HO.out, HB.out⟩
  case round =>
    clear HO HB
    obtain ⟨k, hk, rfl, ho, hb⟩ := hrel
    have HO := Lib.hid ho
    have HB := Lib.hid hb
    clear ho hb
    by_cases hlt : k < n
    · obtain ⟨b, off, rfl, hc0⟩ := HS.out.at k hlt
      have hc : wr.cell? ⟨b, off + k, none⟩ = some (.int .i64 (gx l k)) := by rw [HB.out.cell (p := ⟨b, off + k, none⟩) (cell_lt hc0)]; exact hc0
      have ht : wr.cell? ⟨w.heap.size, k, none⟩ = some (.int .i64 0) := by rw [HO.out.cellAt k (by omega)]; exact part_get l n k HL.out hlt
      have hf : wr.frozen? ⟨w.heap.size, k, none⟩ = false := HO.out.frozenAt k
      have HN : Hid ((wr.setCell ⟨w.heap.size, k, none⟩ (.int .i64 (gx l k))).ownsRow w.heap.size 2 1 (.slice (some ⟨w.heap.size, 0, none⟩) n n) n (part l n (k + 1))) := by
        refine Lib.hid ?_
        rw [← part_set l n k HL.out hlt]
        exact (HO.out.stored k _).1
      have HM : Hid (Below w.heap.size w (wr.setCell ⟨w.heap.size, k, none⟩ (.int .i64 (gx l k)))) := Lib.hid (HB.out.setCell (Nat.le_refl _) _)
      clear hc0
      go_wp2
      go_roundw
      case rel => exact ⟨k + 1, by omega, by go_num, HN.out, HM.out⟩
      case measure => simp [intOf]; omega
    · obtain rfl : n = k := by omega
      go_wp2
      go_ret
      have hown := HO.out
      rw [part_full l n HL.out] at hown
      have hlt := hown.lt w.heap.size rfl
      exact ⟨w.heap.size, rfl, Nat.le_refl _, hlt.2, ⟨by rw [HL.out]; exact hown, HS.out.2.2.2⟩, HB.out⟩
/-- marks from K on -/
theorem l_markK (g n cap base : Nat) (K : Int) (l : List Int) (w : World) (ho : Own w base (.slice (some ⟨g, 0, none⟩) n cap) l) (hl : l.length = n) (hn : n ≤ 1000000000) (hK : 0 ≤ K) (hK2 : K ≤ 1000000000) :
    Calls Tryd.prog 39 #[.slice (some ⟨g, 0, none⟩) n cap, .int .i64 K] w fun e w' => e = .returned (.int .i64 (K + (n : Int))) ∧ w.grownBy w' (some g) := by
  have O1 : Hid (w.ownsRow base 2 1 (.slice (some ⟨g, 0, none⟩) n cap) n (l.map (Value.int .i64))) := Lib.hid (by have := ho.1; rw [hl] at this; exact this)
  have HL := Lib.hid hl
  clear ho hl
  go_enter Tryd.func39, Tryd.ntmps39
  go_wp2
  go_loopw [1, 5] (fun m i wr => ∃ (k : Nat) (l' : List Int), k ≤ n ∧ i = .int .i64 k ∧ m = .int .i64 (K + (k : Int)) ∧ l'.length = n ∧ wr.ownsRow base 2 1 (.slice (some ⟨g, 0, none⟩) n cap) n (l'.map (Value.int .i64)) ∧ w.grownBy wr (some g)) (fun _ i _ => n - (intOf i).toNat)
  case atStart => exact ⟨0, l, by omega, rfl, by simp, HL.out, O1.out, ⟨rfl, rfl, rfl, Nat.le_refl _, fun _ _ _ => rfl⟩⟩
  case round =>
    obtain ⟨k, l', hk, rfl, rfl, hl', ho, hg⟩ := hrel
    have HR := Lib.hid ho; have HG := Lib.hid hg; have HL' := Lib.hid hl'
    clear ho hg hl'
    by_cases hlt : k < n
    · obtain ⟨z, hz⟩ : ∃ z, wr.cell? ⟨g, k, none⟩ = some (.int .i64 z) := ⟨_, by rw [HR.out.cellAt k (by omega), List.getElem?_map, List.getElem?_eq_getElem (by rw [HL'.out]; exact hlt)]; rfl⟩
      have hf : wr.frozen? ⟨g, k, none⟩ = false := HR.out.frozenAt k
      have hset : Hid ((l'.map (Value.int .i64)).set k (.int .i64 (K + (k : Int))) = (l'.set k (K + (k : Int))).map (Value.int .i64)) := Lib.hid (by rw [List.map_set])
      have HS2 : Hid ((l'.set k (K + (k : Int))).length = n) := Lib.hid (by rw [List.length_set]; exact HL'.out)
      go_wp2
      go_roundw
      case rel => exact ⟨k + 1, _, by omega, by go_num, by go_num, HS2.out, by rw [← hset.out]; exact (HR.out.stored k _).1, grown_trans HG.out (HR.out.stored k _).2⟩
      case measure => simp [intOf]; omega
    · obtain rfl : k = n := by omega
      go_wp2
      go_ret
      exact ⟨rfl, HG.out⟩
end Go.Proofs.YtdaihpkjnigjgaaDoor
