/- Drawn texts: a length's text, sometimes damaged: whatever comes out is short. -/
import Derived.Test.YtkkhmlnneijmgaaDoorRead
import Derived.Test.YtkkhmlnneijmgaaDoorDrawV
import Derived.Test.YtkkhmlnneijmgaaDoorRow
import Derived.BigRegion
namespace Go.Proofs.YtkkhmlnneijmgaaDoor
open Go.RowKit
set_option maxHeartbeats 4000000
set_option linter.unusedVariables false
set_option linter.unusedSimpArgs false
def pick8 (j : Nat) : ByteArray := tx [[48, 49, 32, 45, 46, 97, 10, 58].getD j 48]
theorem pick8_size (j : Nat) : (pick8 j).size = 1 := rfl
def eight : Array Value := #[.string ⟨#[48]⟩, .string ⟨#[49]⟩, .string ⟨#[32]⟩, .string ⟨#[45]⟩, .string ⟨#[46]⟩, .string ⟨#[97]⟩, .string ⟨#[10]⟩, .string ⟨#[58]⟩]
theorem eight_at (W : World) (j : Nat) (hj : j < 8) : (W.alloc (.cells #[.string ⟨#[48]⟩, .string ⟨#[49]⟩, .string ⟨#[32]⟩, .string ⟨#[45]⟩, .string ⟨#[46]⟩, .string ⟨#[97]⟩, .string ⟨#[10]⟩, .string ⟨#[58]⟩] 9)).cell? ⟨W.heap.size, j, none⟩ = some (.string (pick8 j)) := by
  rw [cell_of_row _ _ j _ 9 (0, 0) (heap_alloc_new W _)]
  rcases (show j = 0 ∨ j = 1 ∨ j = 2 ∨ j = 3 ∨ j = 4 ∨ j = 5 ∨ j = 6 ∨ j = 7 by omega) with rfl | rfl | rfl | rfl | rfl | rfl | rfl | rfl <;> rfl
/-- a text drawn: short, and nothing turned but the source -/
def DrawnT (w : World) (B : Nat) (a : Option Addr) (len cap : Nat) (most : Nat) (e : Ending) (w' : World) : Prop :=
  ∃ s : ByteArray, e = .returned (.string s) ∧ s.size ≤ most ∧ Src w' B a len cap ∧ w.grownBy w' (some B)
theorem below_grown {w w' : World} (h : Below w.heap.size w w') : w.grownBy w' none :=
  ⟨h.os, h.tape, h.output, h.size, fun k hk _ => h.block k hk⟩
/-- the source outlives whatever turns nothing that was there -/
theorem Src.kept2 {w w' : World} {B : Nat} {a : Option Addr} {len cap : Nat} {row : Option Nat} (h : Src w B a len cap) (hab : 0 < len → ∀ x, a = some x → x.block < B) (hg : w.grownBy w' row) (hr : ∀ k, row = some k → B < k) : Src w' B a len cap := by
  have hlt := h.lt
  obtain ⟨⟨p, s, h1, h2, h3, hb⟩, hc⟩ := h
  refine ⟨⟨p, s, h1, h2, h3, by rw [← hb]; exact hg.block B hlt (fun e => by have := hr B e.symm; omega)⟩, hc.1, fun k hk => ?_⟩
  obtain ⟨b, off, x, rfl, hne, hx, x0, x1⟩ := hc.2 k hk
  exact ⟨b, off, x, rfl, hne, hg.cell hx (fun e => by have := hr b e.symm; have := hab (by omega) ⟨b, off, none⟩ rfl; simp at this; omega), x0, x1⟩
theorem Bytes.low {w : World} {a : Option Addr} {len : Nat} (h : Bytes w a len) : 0 < len → ∀ x, a = some x → x.block < w.heap.size := by
  intro hl x hx
  obtain ⟨b, off, y, hb, hc, _⟩ := h.2 0 hl
  rw [hx] at hb; cases hb
  exact cell_lt hc
theorem size_ext (t : ByteArray) (a b : Nat) : (t.extract a b).size = min b t.size - a := by simp
theorem s_Damage (B : Nat) (a : Option Addr) (len cap : Nat) (t : ByteArray) (w : World) (hs : Src w B a len cap) (ht : t.size ≤ 1000) :
    Calls Tryd.prog 19 #[.pointer (some ⟨B, 0, none⟩), .string t] w (DrawnT w B a len cap 1001) := by
  have HS := Lib.hid hs
  clear hs
  go_enter Tryd.func19, Tryd.ntmps19
  go_wp2_with fail
  refine (s_Next B a len cap _ w HS.out (by omega) (by omega)).mono ?_
  rintro e w1 ⟨r, rfl, r0, r1, r2, src, gr⟩
  obtain ⟨k, rfl⟩ := Int.eq_ofNat_of_zero_le r0
  have hk : k ≤ t.size := by
    by_cases h : (1 : Int) < (t.size : Int) + 1
    · have := r1 h; omega
    · have := r2 (by omega); omega
  have S1 := Lib.hid src; have G1 := Lib.hid gr
  clear src gr r1 r2
  go_wp2_with fail
  refine (s_Next B a len cap 8 _ S1.out (by omega) (by omega)).mono ?_
  rintro e w2 ⟨r, rfl, q0, q1, q2, src, gr⟩
  have hr := q1 (by omega)
  have S2 := Lib.hid src; have G2 := Lib.hid (grown_trans G1.out gr)
  have hB := src.lt
  clear src gr q1 q2
  have w4 : (0 : Int) ≤ (k : Int) := by omega
  have w5 : (k : Int) ≤ (t.size : Int) := by omega
  rcases (show r = 0 ∨ r = 1 ∨ r = 2 ∨ 2 < r by omega) with rfl | rfl | rfl | hr2
  · go_wp2_with fail
    go_ret
    exact ⟨_, rfl, by rw [size_ext]; omega, S2.out, G2.out⟩
  · have PC := eight_at
    go_wp2_with fail
    go_region_with (go_at_call 18; refine (s_Next B a len cap 8 _ (by first | exact S2.out | exact S2.out.alloc _) (by omega) (by omega)).mono ?_; rintro e w3 ⟨q, rfl, z0, z1, z2, src, gr⟩; obtain ⟨j, rfl⟩ := Int.eq_ofNat_of_zero_le z0; have hj : j < 8 := (by have := z1 (by omega); omega); have hp := pick8_size j; (first | (have hc1 : w3.cell? ⟨w2.heap.size, j, none⟩ = some (.string (pick8 j)) := gr.cell (eight_at w2.drew j hj) (by simp; omega)) | skip); have S3 := Lib.hid src; have G3 := Lib.hid gr; clear src gr z1 z2)
    all_goals
      go_wp2
      go_ret
      refine ⟨_, rfl, by rw [ByteArray.size_append, ByteArray.size_append, size_ext, size_ext, hp]; omega, ?_, ?_⟩
      · first
          | exact S3.out
          | exact S3.out.alloc _
      · first
          | exact grown_trans G2.out (grown_trans (grown_trans (grown_drewN w2 1 _) (World.grownBy_alloc _ _ _)) G3.out)
          | exact grown_trans G2.out (grown_trans (grown_trans (grown_drewN w2 1 _) G3.out) (World.grownBy_alloc _ _ _))
  · by_cases hkt : k < t.size
    · have w6 : (0 : Int) ≤ (k : Int) + 1 := by omega
      have w7 : (k : Int) + 1 ≤ (t.size : Int) := by omega
      have w8 : IntKind.i64.wrap ((k : Int) + 1) = (k : Int) + 1 := IntWalk.i64_in _ (by omega)
      have w9 : ((k : Int) + 1).toNat = k + 1 := by omega
      go_wp2_with fail
      go_quiet (fail)
      go_wp2
      go_ret
      exact ⟨_, rfl, by rw [ByteArray.size_append, size_ext, size_ext]; omega, S2.out, grown_trans G2.out (grown_drewN _ _ _)⟩
    · go_wp2_with fail
      go_ret
      exact ⟨_, rfl, by omega, S2.out, G2.out⟩
  · have e0 : (r == 0) = false := by simp; omega
    have e1 : (r == 1) = false := by simp; omega
    have e2 : (r == 2) = false := by simp; omega
    clear hr2
    go_wp2_with fail
    go_ret
    exact ⟨_, rfl, by omega, S2.out, G2.out⟩
theorem mText_len (n : Int) : (tx (mText n)).size ≤ 1000 := by
  rw [tx_size]
  unfold mText
  by_cases hv : isVB n = true
  · obtain ⟨v0, v1⟩ := (isVB_iff n).1 hv
    have := dec_len1 9 (n.natAbs / 1000) (by omega)
    rw [if_pos hv]
    have e : (mAbs n.natAbs).length ≤ 14 := by unfold mAbs; simp [dig3]; omega
    split
    · simp; omega
    · omega
  · rw [if_neg hv]; simp
def OneT (w : World) (e : Ending) (w' : World) : Prop := ∃ s : ByteArray, e = .returned (.string s) ∧ s.size ≤ 1001 ∧ Below w.heap.size w w'
theorem s_DrawMetresText (a : Option Addr) (len cap : Nat) (w : World) (hs : Bytes w a len) :
    Calls Tryd.prog 7 #[.slice a len cap] w (One w) := by
  have HS := Lib.hid hs
  clear hs
  go_enter Tryd.func7, Tryd.ntmps7
  go_wp2_with fail
  refine (s_From a len cap w HS.out).mono ?_
  rintro e w1 ⟨rfl, src, lt, bel⟩
  have S1 := Lib.hid src; have B1 := Lib.hid bel
  clear src bel
  go_wp2_with fail
  refine (s_DrawValue w.heap.size a len cap _ S1.out).mono ?_
  rintro e w2 ⟨x, rfl, px, src, gr⟩
  have B2 := Lib.hid (B1.out.trans (grown_below gr (Nat.le_refl _) (Nat.le_of_lt lt))); have PX := Lib.hid px
  clear src gr px
  go_wp2_with fail
  go_ret
  exact ⟨_, rfl, PX.out, B2.out⟩
theorem s_DrawReadMetres (a : Option Addr) (len cap : Nat) (w : World) (hs : Bytes w a len) :
    Calls Tryd.prog 10 #[.slice a len cap] w (OneT w) := by
  have HS := Lib.hid hs
  have HAB := Lib.hid hs.low
  clear hs
  go_enter Tryd.func10, Tryd.ntmps10
  go_wp2_with fail
  refine (s_From a len cap w HS.out).mono ?_
  rintro e w1 ⟨rfl, src, lt, bel⟩
  have S1 := Lib.hid src; have B1 := Lib.hid bel
  clear src bel
  go_wp2_with fail
  refine (s_DrawValue w.heap.size a len cap _ S1.out).mono ?_
  rintro e w2 ⟨x, rfl, px, src, gr⟩
  have S2 := Lib.hid src; have B2 := Lib.hid (B1.out.trans (grown_below gr (Nat.le_refl _) (Nat.le_of_lt lt)))
  have lt2 := src.lt
  clear src gr px
  go_wp2_with fail
  refine (s_MetresText _ _).mono ?_
  rintro e w3 ⟨rfl, hb⟩
  have S3 := Lib.hid (S2.out.kept2 HAB.out (below_grown hb) (fun k hk => by cases hk))
  have B3 := Lib.hid (B2.out.trans (hb.mono (Nat.le_of_lt lt2)))
  have hl := mText_len x
  obtain ⟨t, htt⟩ : ∃ t, t = tx (mText x) := ⟨_, rfl⟩
  rw [← htt] at hl ⊢
  clear hb htt
  go_wp2_with fail
  refine (s_Next w.heap.size a len cap 3 _ S3.out (by omega) (by omega)).mono ?_
  rintro e w4 ⟨r, rfl, r0, r1, r2, src, gr⟩
  have S4 := Lib.hid src; have B4 := Lib.hid (B3.out.trans (grown_below gr (Nat.le_refl _) B3.out.size))
  clear src gr r1 r2
  by_cases c0 : r = 0
  · subst c0
    go_wp2_with fail
    refine (s_Damage w.heap.size a len cap t _ S4.out hl).mono ?_
    rintro e w5 ⟨s, rfl, hs, src, gr⟩
    have B5 := Lib.hid (B4.out.trans (grown_below gr (Nat.le_refl _) B4.out.size))
    clear src gr
    go_wp2_with fail
    go_ret
    exact ⟨_, rfl, hs, B5.out⟩
  · have e0 : (r == 0) = false := by simpa using c0
    clear c0
    go_wp2_with fail
    go_ret
    exact ⟨_, rfl, by omega, B4.out⟩
end Go.Proofs.YtkkhmlnneijmgaaDoor
