/- Marks that the exact laws look for in layouts, and marks of no layout. -/
import Derived.Test.YtkhhoajoionlfaaDoorMarkS
namespace Go.Proofs.YtkhhoajoionlfaaDoor
open Go.RowKit
set_option maxHeartbeats 4000000
set_option linter.unusedVariables false
set_option linter.unusedSimpArgs false
/-- the marks of a row of segments -/
def mrkF (j : Nat) : Int := 1 + (j : Int)
theorem SgRow.marked {w : World} {g n : Nat} {f : Nat → Int} (h : SgRow w g n (mrkS f n)) : SgRow w g n mrkF := h.congr (fun j hj => by unfold mrkS mrkF; rw [if_pos hj])
def HeldL (w : World) (n : Nat) (e : Ending) (w' : World) : Prop := e = .returned (.int .i64 (1 + 7 * (n : Int))) ∧ Later w w'
set_option maxRecDepth 100000 in
theorem l_heldSegmentS (g n cap : Nat) (w : World) (hr : SgRow w g n mrkF) (hn : n ≤ 1048576) :
    Calls Tryd.prog 18 #[.slice (some ⟨g, 0, none⟩) n cap, .int .i64 1] w (fun e w' => e = .returned (.int .i64 (1 + 7 * (n : Int))) ∧ Later w w') := by
  have HR := Lib.hid hr
  clear hr
  go_enter Tryd.func18, Tryd.ntmps18
  go_wp2_with fail
  go_loopw [1, 5] (fun m i wr => ∃ k : Nat, k ≤ n ∧ i = .int .i64 k ∧ m = .int .i64 (1 + 7 * (k : Int)) ∧ Later w wr) (fun _ i _ => n - (intOf i).toNat)
  case atStart => exact ⟨0, by omega, rfl, rfl, by first | exact Later.refl _ | exact (Later.refl _).drew⟩
  case round =>
    obtain ⟨k, hk, rfl, rfl, hb⟩ := hrel
    have HW := Lib.hid hb
    clear hb
    by_cases hlt : k < n
    · have R3 := HR.out.later HW.out
      have hgl := R3.lt
      have hc : ∀ i, i < 7 → wr.cell? ⟨g, k * 7 + i, none⟩ = some (.int .i64 (1 + 7 * (k : Int) + i)) := fun i hi => by
        rw [(R3.2 (k * 7 + i) (by omega)).1]; unfold mrkF; congr 2; omega
      have c0 := hc 0 (by omega); have c1 := hc 1 (by omega); have c2 := hc 2 (by omega); have c3 := hc 3 (by omega); have c4 := hc 4 (by omega); have c5 := hc 5 (by omega); have c6 := hc 6 (by omega)
      clear hc R3
      simp only [Nat.add_zero] at c0
      go_wp2_with fail
      go_roundw
      case rel => exact ⟨k + 1, by omega, by go_num, congrArg (Value.int .i64) (by omega), by first | exact HW.out | exact HW.out.drew⟩
      case measure => simp [intOf]; omega
    · obtain rfl : k = n := by omega
      go_wp2_with fail
      go_ret
      exact ⟨rfl, by first | exact HW.out | exact HW.out.drew⟩
theorem l_heldLayout (g n cap : Nat) (w : World) (hr : SgRow w g n mrkF) (hn : n ≤ 1048576) :
    Calls Tryd.prog 8 #[.agg #[.slice (some ⟨g, 0, none⟩) n cap], .int .i64 1] w (HeldL w n) := by
  have HR := Lib.hid (hr.later ((Later.refl _).alloc (.cells #[.slice (some ⟨g, 0, none⟩) n cap] 24)))
  clear hr
  go_enter Tryd.func8, Tryd.ntmps8
  go_wp2_with fail
  refine (l_heldSegmentS g n cap _ HR.out hn).mono ?_
  rintro e w1 ⟨rfl, hb⟩
  have B1 := Lib.hid (Later.trans ((Later.refl w).alloc _) hb)
  clear hb
  go_wp2_with fail
  go_ret
  exact ⟨rfl, B1.out⟩
/-- of no layout there is nothing to mark -/
theorem l_markSegmentS0 (w : World) : Calls Tryd.prog 17 #[.slice none 0 0, .int .i64 1] w (fun e w' => e = .returned (.int .i64 1) ∧ Later w w') := by
  go_enter Tryd.func17, Tryd.ntmps17
  go_wp2_with fail
  go_loopw [1, 5] (fun m i wr => i = .int .i64 0 ∧ m = .int .i64 1 ∧ Later w wr) (fun _ i _ => 0)
  case atStart => exact ⟨rfl, rfl, by first | exact Later.refl _ | exact (Later.refl _).drew⟩
  case round =>
    obtain ⟨rfl, rfl, hb⟩ := hrel
    go_wp2_with fail
    go_ret
    exact ⟨rfl, by first | exact hb | exact hb.drew⟩
theorem l_markLayout0 (w : World) : Calls Tryd.prog 7 #[.agg #[.slice none 0 0], .int .i64 1] w (fun e w' => e = .returned (.int .i64 1) ∧ Later w w') := by
  go_enter Tryd.func7, Tryd.ntmps7
  go_wp2_with fail
  refine (l_markSegmentS0 _).mono ?_
  rintro e w1 ⟨rfl, hb⟩
  have B1 := Lib.hid (Later.trans ((Later.refl w).alloc _) hb)
  clear hb
  go_wp2_with fail
  go_ret
  exact ⟨rfl, B1.out⟩
theorem l_heldSegmentS0 (w : World) : Calls Tryd.prog 18 #[.slice none 0 0, .int .i64 1] w (fun e w' => e = .returned (.int .i64 1) ∧ Later w w') := by
  go_enter Tryd.func18, Tryd.ntmps18
  go_wp2_with fail
  go_loopw [1, 5] (fun m i wr => i = .int .i64 0 ∧ m = .int .i64 1 ∧ Later w wr) (fun _ i _ => 0)
  case atStart => exact ⟨rfl, rfl, by first | exact Later.refl _ | exact (Later.refl _).drew⟩
  case round =>
    obtain ⟨rfl, rfl, hb⟩ := hrel
    go_wp2_with fail
    go_ret
    exact ⟨rfl, by first | exact hb | exact hb.drew⟩
theorem l_heldLayout0 (w : World) : Calls Tryd.prog 8 #[.agg #[.slice none 0 0], .int .i64 1] w (fun e w' => e = .returned (.int .i64 1) ∧ Later w w') := by
  go_enter Tryd.func8, Tryd.ntmps8
  go_wp2_with fail
  refine (l_heldSegmentS0 _).mono ?_
  rintro e w1 ⟨rfl, hb⟩
  have B1 := Lib.hid (Later.trans ((Later.refl w).alloc _) hb)
  clear hb
  go_wp2_with fail
  go_ret
  exact ⟨rfl, B1.out⟩
end Go.Proofs.YtkhhoajoionlfaaDoor
