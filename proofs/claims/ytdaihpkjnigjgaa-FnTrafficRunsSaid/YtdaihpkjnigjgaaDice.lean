/- The laws' own dice: numbers from 0 to n - 1 out of the code's bytes. -/
import Derived.Test.YtdaihpkjnigjgaaSt
import Derived.RegionTactic
import Derived.ChangeAlike
namespace Go.Proofs.Ytdaihpkjnigjgaa
open Go.RowKit
set_option maxHeartbeats 2000000
set_option linter.unusedVariables false
set_option linter.unusedSimpArgs false
def Dice (w : World) (D : Nat) (a : Option Addr) (len cap : Nat) : Prop :=
  (∃ (i : Nat) (h : Int), i ≤ len ∧ w.heap[D]? = some (.cells #[.slice a len cap, .int .i64 i, .int .u64 h] 107 (0, 0))) ∧ Code8 w D a len
theorem Dice.lt {w : World} {D : Nat} {a : Option Addr} {len cap : Nat} (h : Dice w D a len cap) : D < w.heap.size := by
  obtain ⟨⟨i, s, _, hb⟩, _⟩ := h
  exact (Array.getElem?_eq_some_iff.1 hb).1
theorem dice_and (E : Int) (h0 : 0 ≤ E) (h1 : E ≤ 18446744073709551615) : 0 ≤ bits BinOp.and IntKind.u64 E 16777215 ∧ bits BinOp.and IntKind.u64 E 16777215 ≤ 16777215 := by
  have h := bits_and_u64_nat E.toNat 16777215 (by omega) (by omega)
  rw [Int.toNat_of_nonneg h0] at h
  have h2 : E.toNat &&& 16777215 ≤ 16777215 := Nat.and_le_right
  have h3 : bits BinOp.and IntKind.u64 E 16777215 = ((E.toNat &&& 16777215 : Nat) : Int) := h
  rw [h3]
  omega
theorem u64_bd (x : Int) : 0 ≤ IntKind.u64.wrap x ∧ IntKind.u64.wrap x ≤ 18446744073709551615 := by
  simp [IntKind.wrap, IntKind.signed, IntKind.bits]
  omega
theorem dice_x (h : Int) : ∃ X : Int, wrap64 (bits BinOp.and IntKind.u64 (IntKind.u64.wrap (IntKind.u64.wrap (h * 6364136223846793005) + 1442695040888963407) / 8589934592) 16777215) = X ∧ 0 ≤ X ∧ X ≤ 16777215 := by
  obtain ⟨a, b⟩ := u64_bd (IntKind.u64.wrap (h * 6364136223846793005) + 1442695040888963407)
  generalize IntKind.u64.wrap (IntKind.u64.wrap (h * 6364136223846793005) + 1442695040888963407) = E at *
  obtain ⟨c, d⟩ := dice_and (E / 8589934592) (by omega) (by omega)
  generalize bits BinOp.and IntKind.u64 (E / 8589934592) 16777215 = Y at *
  refine ⟨_, rfl, ?_, ?_⟩ <;> unfold wrap64 <;> omega
theorem dice_fin0 {w : World} {D : Nat} {a : Option Addr} {len cap i : Nat} {h v : Int} (q : Nat) (hb : w.heap[D]? = some (.cells #[.slice a len cap, .int .i64 i, .int .u64 h] 107 (0, 0))) (hc : Code8 w D a len) (hi : i ≤ len) :
    Dice ((w.setCell ⟨D, 2, none⟩ (.int .u64 v)).drewN q) D a len cap ∧ w.grownBy ((w.setCell ⟨D, 2, none⟩ (.int .u64 v)).drewN q) (some D) := by
  have g : w.grownBy ((w.setCell ⟨D, 2, none⟩ (.int .u64 v)).drewN q) (some D) := grown_trans (grown_set _ _ _ _) (grown_drewN _ _ _)
  exact ⟨⟨⟨i, v, hi, set2 hb⟩, hc.kept g⟩, g⟩
theorem dice_fin {w : World} {D : Nat} {a : Option Addr} {len cap i : Nat} {h v x : Int} (q q' : Nat) (hb : w.heap[D]? = some (.cells #[.slice a len cap, .int .i64 i, .int .u64 h] 107 (0, 0))) (hc : Code8 w D a len) (hi : i + 1 ≤ len) (hx : x = ((i + 1 : Nat) : Int)) :
    Dice ((((w.setCell ⟨D, 2, none⟩ (.int .u64 v)).drewN q).setCell ⟨D, 1, none⟩ (.int .i64 x)).drewN q') D a len cap ∧ w.grownBy ((((w.setCell ⟨D, 2, none⟩ (.int .u64 v)).drewN q).setCell ⟨D, 1, none⟩ (.int .i64 x)).drewN q') (some D) := by
  have g : w.grownBy ((((w.setCell ⟨D, 2, none⟩ (.int .u64 v)).drewN q).setCell ⟨D, 1, none⟩ (.int .i64 x)).drewN q') (some D) :=
    grown_trans (grown_trans (grown_trans (grown_set _ _ _ _) (grown_drewN _ _ _)) (grown_set _ _ _ _)) (grown_drewN _ _ _)
  subst hx
  exact ⟨⟨⟨i + 1, v, hi, set1 (show ((w.setCell ⟨D, 2, none⟩ (.int .u64 v)).drewN q).heap[D]? = _ from set2 hb)⟩, hc.kept g⟩, g⟩
def Below' (w : World) (D : Nat) (a : Option Addr) (len cap : Nat) (n : Int) (e : Ending) (w' : World) : Prop :=
  ∃ r : Int, e = .returned (.int .i64 r) ∧ 0 ≤ r ∧ r < n ∧ Dice w' D a len cap ∧ w.grownBy w' (some D)
theorem l_below (D : Nat) (a : Option Addr) (len cap : Nat) (n : Int) (w : World) (hs : Dice w D a len cap) (hn : 1 ≤ n) (hn2 : n ≤ 9223372036854775807) :
    Calls Try.prog 46 #[.pointer (some ⟨D, 0, none⟩), .int .i64 n] w (Below' w D a len cap n) := by
  obtain ⟨⟨i, h, hi, hb⟩, hc⟩ := hs
  have HB := Lib.hid hb; have HC := Lib.hid hc
  have hl := hc.1
  clear hc
  have c0 : w.cell? ⟨D, 0, none⟩ = some (.slice a len cap) := by simp [World.cell?, hb]
  have c1 : w.cell? ⟨D, 1, none⟩ = some (.int .i64 i) := by simp [World.cell?, hb]
  have c2 : w.cell? ⟨D, 2, none⟩ = some (.int .u64 h) := by simp [World.cell?, hb]
  have f1 : w.frozen? ⟨D, 1, none⟩ = false := by simp [World.frozen?, hb]
  have f2 : w.frozen? ⟨D, 2, none⟩ = false := by simp [World.frozen?, hb]
  clear hb
  obtain ⟨X, hX, x0, x1⟩ := dice_x h
  have mod_bd : ∀ x : Int, 0 ≤ x → 0 ≤ x % n ∧ x % n < n := fun x hx => ⟨Int.emod_nonneg _ (by omega), Int.emod_lt_of_pos _ (by omega)⟩
  have MB := Lib.hid mod_bd
  clear mod_bd
  by_cases h2 : i < len
  · obtain ⟨b, off, y, rfl, hne, hy, y0, y1⟩ := HC.out.2 i h2
    have hxy : 0 ≤ X + y := by omega
    go_enter Try.func46, Try.ntmps46
    go_wp2
    go_quiet (fail)
    go_wp2
    go_quiet (fail)
    go_wp2
    go_ret
    obtain ⟨r0, r1⟩ := MB.out _ hxy
    exact ⟨_, rfl, r0, r1, dice_fin _ 0 HB.out HC.out (by omega) (by omega)⟩
  · go_enter Try.func46, Try.ntmps46
    go_wp2
    go_quiet (fail)
    go_wp2
    go_ret
    obtain ⟨r0, r1⟩ := MB.out _ x0
    exact ⟨_, rfl, r0, r1, dice_fin0 _ HB.out HC.out hi⟩
def Rolled (w : World) (a : Option Addr) (len cap : Nat) (e : Ending) (w' : World) : Prop :=
  e = .returned (.pointer (some ⟨w.heap.size, 0, none⟩)) ∧ Dice w' w.heap.size a len cap ∧ w.heap.size < w'.heap.size ∧ Later w w'
theorem l_roll (a : Option Addr) (len cap : Nat) (s : Int) (w : World) (hs : Bytes w a len) :
    Calls Try.prog 45 #[.slice a len cap, .int .u64 s] w (Rolled w a len cap) := by
  have HS := Lib.hid hs
  have hl := hs.1
  clear hs
  go_enter Try.func45, Try.ntmps45
  go_wp2
  go_loopw [6] (fun i wr => ∃ (k : Nat) (h : Int), k ≤ len ∧ i = .int .i64 k ∧ wr.heap[w.heap.size]? = some (.cells #[.slice a len cap, .int .i64 0, .int .u64 h] 107 (0, 0)) ∧ Later w wr) (fun i _ => len - (intOf i).toNat)
  case atStart => exact ⟨0, _, by omega, rfl, heap_alloc_new w _, (Later.refl _).alloc _⟩
  case round =>
    obtain ⟨k, h, hk, rfl, hb, hB⟩ := hrel
    have HB := Lib.hid hb
    have HW := Lib.hid hB
    have c2 : wr.cell? ⟨w.heap.size, 2, none⟩ = some (.int .u64 h) := by simp [World.cell?, hb]
    have f2 : wr.frozen? ⟨w.heap.size, 2, none⟩ = false := by simp [World.frozen?, hb]
    clear hb hB
    by_cases hlt : k < len
    · obtain ⟨b, off, x, rfl, hx0, x0, x1⟩ := HS.out.2 k hlt
      have hx : wr.cell? ⟨b, off + k, none⟩ = some (.int .u8 x) := by rw [HW.out.cell (p := ⟨b, off + k, none⟩) (cell_lt hx0)]; exact hx0
      clear hx0
      go_wp2
      go_region
      go_wp2
      go_roundw
      case rel => exact ⟨k + 1, _, by omega, by go_num, set2 HB.out, (HW.out.drew.setCell (Nat.le_refl _) _)⟩
      case measure => simp [intOf]; omega
    · go_wp2
      go_ret
      exact ⟨rfl, ⟨⟨0, h, by omega, HB.out⟩, bytes_code HS.out HW.out⟩, cell_lt c2, HW.out⟩
end Go.Proofs.Ytdaihpkjnigjgaa
