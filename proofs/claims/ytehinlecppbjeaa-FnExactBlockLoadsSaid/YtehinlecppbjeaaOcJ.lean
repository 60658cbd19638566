/- Contracts of chapter 5: lists that are joined. -/
import Derived.Test.YtehinlecppbjeaaOcN
namespace Go.Proofs.Ytehinlecppbjeaa
open Go.RowKit
set_option maxHeartbeats 2000000
set_option linter.unusedVariables false
set_option linter.unusedSimpArgs false
theorem later_gO {w w' : World} (h : Later w w') (row : Option Nat) : w.grownBy w' row := ⟨h.os, h.tape, h.output, h.size, fun k hk _ => h.block k hk⟩
theorem Own.lat {w w' : World} {base : Nat} {v : Value} {l : List Int} (h : Own w base v l) (k : Later w w') : Own w' base v l := h.kept (later_gO k none) (fun _ e => by cases e)
/-- what hands back a list of its own and a code leaves -/
def GivesC (w : World) (l : List Int) (c : Int) (e : Ending) (w' : World) : Prop := ∃ v, e = .returned (.tuple #[v, .int .i64 c]) ∧ Own w' w.heap.size v l ∧ Later w w'
/-- a slice value that reads as a list -/
def Rd (w : World) (v : Value) (l : List Int) : Prop := ∃ a cap, v = .slice a l.length cap ∧ Sl w a l.length l ∧ (a = none → cap = 0)
theorem Rd.later {w w' : World} {v : Value} {l : List Int} (h : Rd w v l) (k : Later w w') : Rd w' v l := by
  obtain ⟨a, cap, e, hs, h0⟩ := h
  exact ⟨a, cap, e, sl_lat hs k, h0⟩
theorem Own.rd {w : World} {base : Nat} {v : Value} {l : List Int} (h : Own w base v l) : Rd w v l := by
  obtain ⟨h1, h2⟩ := h
  have h0 := h1
  rcases h1.2 with ⟨rfl, h3⟩ | ⟨g, cap, cur, rfl, hb, hg, hnc, hcm, _⟩
  · exact ⟨none, 0, by rw [h3], ⟨rfl, by omega, fun k hk => by omega, h2⟩, fun _ => rfl⟩
  · unfold maxLen at hcm
    exact ⟨some ⟨g, 0, none⟩, cap, rfl, sl_of_row h0 rfl (by omega) h2, fun e => by cases e⟩
set_option maxRecDepth 100000 in
theorem i_joined (g : Nat) (v1 v2 : Value) (l1 l2 : List Int) (w : World) (c0 : w.cell? ⟨g, 0, none⟩ = some v1) (c1 : w.cell? ⟨g, 1, none⟩ = some v2) (r1 : Rd w v1 l1) (r2 : Rd w v2 l2) (h1 : l1.length ≤ 1000) (h2 : l2.length ≤ 1000) :
    Calls Try.prog 99 #[.slice (some ⟨g, 0, none⟩) 2 2] w (Gives w (l1 ++ l2)) := by
  have HC0 := Lib.hid c0; have HC1 := Lib.hid c1
  obtain ⟨a1, k1, rfl, s1, z1⟩ := r1
  obtain ⟨a2, k2, rfl, s2, z2⟩ := r2
  have S1 := Lib.hid s1; have S2 := Lib.hid s2
  have Z1 := Lib.hid z1; have Z2 := Lib.hid z2
  have hg := cell_lt c0
  clear c0 c1 s1 s2 z1 z2
  go_enter Try.func99, Try.ntmps99
  go_wp2
  go_loopw [3, 8] (fun v i wr => ∃ k : Nat, k ≤ 2 ∧ i = .int .i64 k ∧ Own wr w.heap.size v (if k = 0 then [] else if k = 1 then l1 else l1 ++ l2) ∧ Later w wr) (fun _ i _ => 2 - (intOf i).toNat)
  case atStart => exact ⟨0, by omega, rfl, own_none _ _, Later.refl _⟩
  case round =>
    obtain ⟨k, hk, rfl, ho, hlw⟩ := hrel
    have O := Lib.hid ho
    have HW := Lib.hid hlw
    have hz := hlw.size
    clear ho
    have hk3 : k = 0 ∨ k = 1 ∨ k = 2 := by omega
    rcases hk3 with rfl | rfl | rfl
    · have c0 : wr.cell? ⟨g, 0, none⟩ = some (.slice a1 l1.length k1) := by rw [hlw.cell (p := ⟨g, 0, none⟩) hg]; exact HC0.out
      have O0 : Hid (Own wr w.heap.size _ []) := Lib.hid O.out
      clear hlw O hk
      go_wp2_with (at_builtin; go_must (refine appAll _ _ rfl w.heap.size _ _ _ l1 a1 k1 O0.out (sl_lat S1.out HW.out) Z1.out rfl rfl rfl (by simp; omega) (by omega) ?_; intro v' w5 ho hg5; have O5 : Hid (Own w5 w.heap.size v' l1) := Lib.hid (by simpa using ho); have W5 : Hid (Later w w5) := Lib.hid (Below.grown HW.out hg5 HW.out.size (fun j e => (O0.out.lt j e).1)); clear ho hg5))
      go_roundw
      case rel => exact ⟨1, by omega, by go_num, O5.out, W5.out⟩
      case measure => simp [intOf]
    · have c1 : wr.cell? ⟨g, 1, none⟩ = some (.slice a2 l2.length k2) := by rw [hlw.cell (p := ⟨g, 1, none⟩) hg]; exact HC1.out
      have O0 : Hid (Own wr w.heap.size _ l1) := Lib.hid O.out
      clear hlw O hk
      go_wp2_with (at_builtin; go_must (refine appAll _ _ rfl w.heap.size _ _ _ l2 a2 k2 O0.out (sl_lat S2.out HW.out) Z2.out rfl rfl rfl (by omega) (by omega) ?_; intro v' w5 ho hg5; have O5 := Lib.hid ho; have W5 : Hid (Later w w5) := Lib.hid (Below.grown HW.out hg5 HW.out.size (fun j e => (O0.out.lt j e).1)); clear ho hg5))
      go_roundw
      case rel => exact ⟨2, by omega, by go_num, O5.out, W5.out⟩
      case measure => simp [intOf]
    · have O0 : Hid (Own wr w.heap.size _ (l1 ++ l2)) := Lib.hid O.out
      clear hlw O hk
      go_wp2
      go_ret
      exact ⟨_, rfl, O0.out, HW.out⟩
/-- at a list that has just been laid -/
theorem i_joined_at (W : World) (T : TypeId) (v1 v2 : Value) (l1 l2 : List Int) (r1 : Rd (W.alloc (.cells #[v1, v2] T)) v1 l1) (r2 : Rd (W.alloc (.cells #[v1, v2] T)) v2 l2) (h1 : l1.length ≤ 1000) (h2 : l2.length ≤ 1000) :
    Calls Try.prog 99 #[.slice (some ⟨W.heap.size, 0, none⟩) 2 2] (W.alloc (.cells #[v1, v2] T)) (Gives (W.alloc (.cells #[v1, v2] T)) (l1 ++ l2)) :=
  i_joined W.heap.size v1 v2 l1 l2 _ (by rw [cell_of_row _ _ 0 _ T (0, 0) (heap_alloc_new W _)]; rfl) (by rw [cell_of_row _ _ 1 _ T (0, 0) (heap_alloc_new W _)]; rfl) r1 r2 h1 h2
end Go.Proofs.Ytehinlecppbjeaa
