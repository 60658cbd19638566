/- Copies of slices of int64 and their comparison, as the exact laws make them. -/
import Derived.Test.YtdaihpkjnigjgaaDoorEqI
namespace Go.Proofs.YtdaihpkjnigjgaaDoor
open Go.RowKit
set_option maxHeartbeats 2000000
set_option linter.unusedVariables false
set_option linter.unusedSimpArgs false
/-- the cells of a copy of l, of which k elements are written -/
def part (l : List Int) (n k : Nat) : List Value := (l.take k).map (Value.int .i64) ++ List.replicate (n - k) (.int .i64 0)
theorem part_len (l : List Int) (n k : Nat) (hl : l.length = n) (hk : k ≤ n) : (part l n k).length = n := by
  simp [part]; omega
theorem part_zero (l : List Int) (n : Nat) : part l n 0 = List.replicate n (.int .i64 0) := by simp [part]
theorem part_set (l : List Int) (n k : Nat) (hl : l.length = n) (hk : k < n) : (part l n k).set k (.int .i64 (gx l k)) = part l n (k + 1) := by
  have e1 : n - k = (n - (k + 1)) + 1 := by omega
  have e2 : l.take (k + 1) = l.take k ++ [gx l k] := by
    rw [List.take_succ_eq_append_getElem (by omega), gx_of l k (by omega)]
  unfold part
  rw [e1, e2, List.set_append]
  have hm : min k l.length = k := by omega
  simp [List.replicate_succ, hm]
theorem part_full (l : List Int) (n : Nat) (hl : l.length = n) : part l n n = l.map (Value.int .i64) := by
  unfold part; rw [List.take_of_length_le (by omega)]; simp
theorem part_get (l : List Int) (n k : Nat) (hl : l.length = n) (hk : k < n) : (part l n k)[k]? = some (.int .i64 0) := by
  unfold part
  rw [List.getElem?_append_right (by simp; omega)]
  simp [List.getElem?_replicate]
  omega
def Copied (w : World) (n : Nat) (l : List Int) (e : Ending) (w' : World) : Prop :=
  ∃ g, e = .returned (.slice (some ⟨g, 0, none⟩) n n) ∧ w.heap.size ≤ g ∧ g < w'.heap.size ∧ Sl w' (some ⟨g, 0, none⟩) n l ∧ Below w.heap.size w w'
theorem l_toInt64S (a : Option Addr) (n cap : Nat) (l : List Int) (w : World) (hs : Sl w a n l) (hn : n ≤ 1048576) :
    Calls Tryd.prog 37 #[.slice a n cap] w (Copied w n l) := by
  have HS := Lib.hid hs
  have HL := Lib.hid hs.1
  clear hs
  obtain ⟨i0, hi, hz0, hz1, hz2⟩ := info_parts info_i64
  have HI := Lib.hid hi; clear hi
  have HZ0 := Lib.hid hz0; clear hz0
  have HZ1 := Lib.hid hz1; clear hz1
  have HZ2 := Lib.hid hz2; clear hz2
  go_enter Tryd.func37, Tryd.ntmps37
  go_wp2_with (refine wpList_make_full _ rfl _ _ _ rfl w.heap.size 2 i0 (.int .i64 0) 1 Tryd.underlying24 HI.out HZ0.out HZ1.out _ _ _ _ n rfl rfl rfl rfl (by rw [HZ2.out]; omega) (by unfold maxLen; omega) (Nat.le_refl _) ?_; intro w1 hown hgrow)
  have hown' : w1.ownsRow w.heap.size 2 1 (.slice (some ⟨w.heap.size, 0, none⟩) n n) n (part l n 0) := by
    rw [part_zero, ← toList_madeCells_one]; simpa [Value.cells] using hown
  have hb1 : Below w.heap.size w w1 := (Below.refl _ _).grown hgrow (Nat.le_refl _) (by simp)
  have HO := Lib.hid hown'
  have HB := Lib.hid hb1
  clear hown hgrow hown' hb1
  go_loopw [4] (fun i wr => ∃ k : Nat, k ≤ n ∧ i = .int .i64 k ∧ wr.ownsRow w.heap.size 2 1 (.slice (some ⟨w.heap.size, 0, none⟩) n n) n (part l n k) ∧ Below w.heap.size w wr) (fun i _ => n - (intOf i).toNat)
  case atStart => exact ⟨0, by omega, rfl, HO.out, HB.out⟩
  case round =>
    clear HO HB
    obtain ⟨k, hk, rfl, ho, hb⟩ := hrel
    have HO := Lib.hid ho
    have HB := Lib.hid hb
    clear ho hb
    by_cases hlt : k < n
    · obtain ⟨b, off, rfl, hc0⟩ := HS.out.at k hlt
      have hc : wr.cell? ⟨b, off + k, none⟩ = some (.int .i64 (gx l k)) := by rw [HB.out.cell (p := ⟨b, off + k, none⟩) (cell_lt hc0)]; exact hc0
      have ht : wr.cell? ⟨w.heap.size, k, none⟩ = some (.int .i64 0) := by rw [HO.out.cellAt k (by omega)]; exact part_get l n k HL.out hlt
      have hf : wr.frozen? ⟨w.heap.size, k, none⟩ = false := HO.out.frozenAt k
      have HN : Hid ((wr.setCell ⟨w.heap.size, k, none⟩ (.int .i64 (gx l k))).ownsRow w.heap.size 2 1 (.slice (some ⟨w.heap.size, 0, none⟩) n n) n (part l n (k + 1))) := by
        refine Lib.hid ?_
        rw [← part_set l n k HL.out hlt]
        exact (HO.out.stored k _).1
      have HM : Hid (Below w.heap.size w (wr.setCell ⟨w.heap.size, k, none⟩ (.int .i64 (gx l k)))) := Lib.hid (HB.out.setCell (Nat.le_refl _) _)
      clear hc0
      go_wp2
      go_roundw
      case rel => exact ⟨k + 1, by omega, by go_num, HN.out, HM.out⟩
      case measure => simp [intOf]; omega
    · obtain rfl : n = k := by omega
      go_wp2
      go_ret
      have hown := HO.out
      rw [part_full l n HL.out] at hown
      have hlt := hown.lt w.heap.size rfl
      exact ⟨w.heap.size, rfl, Nat.le_refl _, hlt.2, sl_of_row hown HL.out (by omega) HS.out.2.2.2, HB.out⟩
end Go.Proofs.YtdaihpkjnigjgaaDoor
