/- Numbers in decimal, as the program writes and reads them by strconv and the model by itself. -/
import Derived.Test.YtkkhmlnneijmgaaDoorNum0
import Derived.Test.YtkkhmlnneijmgaaDoorMathM
import Derived.Test.YtkkhmlnneijmgaaDoorShelf
import Derived.Deep.RegionWith
import Derived.WalkSmall
import Derived.WalkMore
import Derived.Outline
import Derived.Lib.SmallJoins
import Derived.Lib.AppendIntMem
namespace Go.Proofs.YtkkhmlnneijmgaaDoor
open Go.RowKit Go.Shelf
set_option maxHeartbeats 2000000
set_option linter.unusedVariables false
set_option linter.unusedSimpArgs false
theorem bcell {W w1 : World} (hb : Below W.heap.size W w1) : (∀ b o, b < W.heap.size → w1.cell? ⟨b, o, none⟩ = W.cell? ⟨b, o, none⟩) ∧ (∀ b o, b < W.heap.size → w1.frozen? ⟨b, o, none⟩ = W.frozen? ⟨b, o, none⟩) :=
  ⟨fun b o h => hb.cell (p := ⟨b, o, none⟩) h, fun b o h => hb.frozen (p := ⟨b, o, none⟩) h⟩
/-- a text by its bytes -/
def tx (l : List UInt8) : ByteArray := ⟨l.toArray⟩
/-- the table of powers that strconv reads -/
def Tab (w : World) : Prop := Lib.TabIs Tryd.prog w "internal/strconv.uint64pow10" .u64 Lib.pow10Tab
theorem Tab.later {w w' : World} (h : Tab w) (hb : Below w.heap.size w w') : Tab w' := by
  unfold Tab at *
  exact Go.Joins.tab_stays (B := w.heap.size) (g := 0) (by kernel_rfl) h hb (Nat.le_refl _)
/-- 'it hands back the text l, and nothing that was there is turned' -/
def Texts (w : World) (l : List UInt8) (e : Ending) (w' : World) : Prop := e = .returned (.string (tx l)) ∧ Below w.heap.size w w'
theorem i_Format (n : Int) (h0 : -9223372036854775808 ≤ n) (h1 : n ≤ 9223372036854775807) (w : World) (ht : Tab w) :
    Calls Tryd.prog 16 #[.int .i64 n, .int .i64 10] w (Texts w (Lib.itoa n)) :=
  (Any.strconv_FormatInt_10 Tryd.laysM173 n h0 h1 w ht).mono fun e w' ⟨he, k, os, hw⟩ => ⟨he, by rw [hw]; exact Go.Lib.below_grow _ w (Nat.le_refl _) k os⟩
theorem conv1 (x : Int) (h0 : 0 ≤ x) (h1 : x < 256) (W : World) (b : Nat) (hc : W.cell? ⟨b, 0, none⟩ = some (.int .u8 x)) :
    (convert 22 9 (.slice (some ⟨b, 0, none⟩) 1 1)).run Tryd.prog W = .ok (.string (tx [UInt8.ofNat x.toNat])) W := by
  refine run_convert_bytes_back (P := Tryd.prog) W 22 9 5 ⟨b, 0, none⟩ 1 [UInt8.ofNat x.toNat] Tryd.underlying22 Tryd.underlying5 Tryd.underlying9 ?_
  intro j hj
  have : j = 0 := by simpa using hj
  subst this
  rw [Addr.add_lit, hc]
  have : (UInt8.ofNat x.toNat).toNat = x.toNat := by simp; omega
  simp [this]; omega
def InI (n : Int) : Prop := -9223372036854775808 ≤ n ∧ n ≤ 9223372036854775807
theorem tx_app (a b : List UInt8) : tx a ++ tx b = tx (a ++ b) := by
  apply ByteArray.ext
  simp [tx, ByteArray.data_append]
theorem tx_size (l : List UInt8) : (tx l).size = l.length := rfl
theorem tx_dec (n : Nat) (h : n < 10000000000000000000) : (tx (Lib.decDigits n)).size ≤ 1000 := by
  have := dec_len 19 n h
  rw [tx_size]; omega
theorem s_Dec (k : Nat) : ∀ (n : Int) (w : World), 0 ≤ n → n < k → n ≤ 9223372036854775807 →
    Calls Tryd.prog 22 #[.int .i64 n] w (Texts w (Lib.decDigits n.toNat)) := by
  induction k with
  | zero => intro n w h0 h1; omega
  | succ k ih =>
    intro n w h0 h1 h2
    have IH := Lib.hid ih
    clear ih
    by_cases h : n < 10
    · have hcv := conv1 (48 + n) (by omega) (by omega)
      go_enter Tryd.func22, Tryd.ntmps22
      go_wp2
      go_ret
      refine ⟨congrArg (fun l => Ending.returned (.string (tx l))) (show [UInt8.ofNat (48 + n).toNat] = Lib.decDigits n.toNat from ?_), (Below.refl _ _).alloc (Nat.le_refl _) _⟩
      rw [Lib.decDigits, dif_pos (by omega), show (48 + n).toNat = 48 + n.toNat by omega]
    · have hcv := conv1 (48 + n % 10) (by omega) (by omega)
      have e1 : IntKind.i64.wrap (n.tdiv 10) = n / 10 := by rw [Int.tdiv_eq_ediv_of_nonneg h0, IntWalk.i64_in _ (by omega)]
      have e2 : n.tmod 10 = n % 10 := Int.tmod_eq_emod_of_nonneg h0
      have e3 : IntKind.i64.wrap (48 + n % 10) = 48 + n % 10 := IntWalk.i64_in _ (by omega)
      have hz : (tx (Lib.decDigits (n / 10).toNat)).size ≤ 1000 := tx_dec _ (by omega)
      have hz1 : (tx [UInt8.ofNat (48 + n % 10).toNat]).size = 1 := rfl
      have HZ1 := Lib.hid hz1
      have e4 : IntKind.u8.wrap (48 + n % 10) = 48 + n % 10 := IntWalk.u8_in _ (by omega)
      go_enter Tryd.func22, Tryd.ntmps22
      go_wp2
      go_region_with (go_at_call 22; refine (IH.out _ _ (by omega) (by omega) (by omega)).mono ?_; rintro e w1 ⟨rfl, hb⟩; obtain ⟨hc, hf⟩ := bcell hb)
      all_goals
        go_wp2
        go_ret
        refine ⟨(congrArg (fun s => Ending.returned (.string s)) (tx_app _ _)).trans (congrArg (fun l => Ending.returned (.string (tx l))) (show Lib.decDigits (n / 10).toNat ++ [UInt8.ofNat (48 + n % 10).toNat] = Lib.decDigits n.toNat from ?_)), ?_⟩
        · rw [Lib.decDigits.eq_def n.toNat, dif_neg (by omega), show (48 + n % 10).toNat = 48 + n.toNat % 10 by omega, show (n / 10).toNat = n.toNat / 10 by omega]
        · first
            | exact ((Below.refl _ w).drew.trans hb).alloc (by have := hb.size; simpa using this) _
            | exact (((Below.refl _ w).drew).alloc (by simp) _).trans (hb.mono (by simp))
theorem i_FormatK (r : Int) (h0 : 0 ≤ r) (h1 : r < 1000) (w : World) (ht : Tab w) :
    Calls Tryd.prog 16 #[.int .i64 (1000 + r), .int .i64 10] w (Texts w (49 :: dig3 r.toNat)) := by
  have := i_Format (1000 + r) (by omega) (by omega) w ht
  rwa [itoa_nn _ (by omega), show (1000 + r).toNat = 1000 + r.toNat by omega, dec_thousand _ (by omega)] at this
theorem i_FormatN (n : Int) (h0 : 0 ≤ n) (h1 : n ≤ 9223372036854775807) (w : World) (ht : Tab w) :
    Calls Tryd.prog 16 #[.int .i64 n, .int .i64 10] w (Texts w (Lib.decDigits n.toNat)) := by
  have := i_Format n (by omega) (by omega) w ht
  rwa [itoa_nn _ h0] at this
theorem tx_cut (r : Nat) : (tx (49 :: dig3 r)).extract 1 4 = tx (dig3 r) := by
  apply ByteArray.ext
  apply Array.toList_inj.1
  rw [Lib.extract_data]
  rfl
theorem i_MetresText (n : Int) (w : World) (ht : Tab w) : Calls Tryd.prog 8 #[.int .i64 n] w (Texts w (mText n)) := by
  have HT := Lib.hid ht
  clear ht
  by_cases hv : isVB n = true
  · obtain ⟨v0, v1⟩ := (isVB_iff n).1 hv
    by_cases hneg : n < 0
    · obtain ⟨m, rfl⟩ : ∃ m, n = -m := ⟨-n, by omega⟩
      have m0 : 0 < m := by omega
      have m1 : m ≤ 1000000000000 := by omega
      have hs : (tx (49 :: dig3 (m % 1000).toNat)).size = 4 := rfl
      have hz := tx_dec (m / 1000).toNat (by omega)
      go_enter Tryd.func8, Tryd.ntmps8
      go_wp2_with fail
      refine (i_isValue _ _).mono ?_
      rintro e w' ⟨rfl, rfl⟩
      go_wp2_with fail
      refine (i_FormatK _ (by omega) (by omega) _ HT.out).mono ?_
      rintro e w1 ⟨rfl, hb1⟩
      have B1 := Lib.hid hb1; have T1 := Lib.hid (HT.out.later hb1)
      clear hb1
      go_wp2_with fail
      refine (i_FormatN _ (by omega) (by omega) _ T1.out).mono ?_
      rintro e w2 ⟨rfl, hb2⟩
      have B2 := Lib.hid hb2
      clear hb2
      go_wp2_with fail
      go_ret
      refine ⟨congrArg (fun s => Ending.returned (.string s)) ?_, B1.out.trans (B2.out.mono B1.out.size)⟩
      show tx [45] ++ tx (Lib.decDigits (m / 1000).toNat) ++ tx [46] ++ (tx (49 :: dig3 (m % 1000).toNat)).extract 1 4 = _
      rw [tx_cut, tx_app, tx_app, tx_app, mText_neg m hv m0, show (m % 1000).toNat = m.toNat % 1000 by omega, dig3_mod, show (m / 1000).toNat = m.toNat / 1000 by omega]
      simp [mAbs]
    · have m0 : 0 ≤ n := by omega
      have hs : (tx (49 :: dig3 (n % 1000).toNat)).size = 4 := rfl
      have hz := tx_dec (n / 1000).toNat (by omega)
      clear hneg
      go_enter Tryd.func8, Tryd.ntmps8
      go_wp2_with fail
      refine (i_isValue _ _).mono ?_
      rintro e w' ⟨rfl, rfl⟩
      go_wp2_with fail
      refine (i_FormatK _ (by omega) (by omega) _ HT.out).mono ?_
      rintro e w1 ⟨rfl, hb1⟩
      have B1 := Lib.hid hb1; have T1 := Lib.hid (HT.out.later hb1)
      clear hb1
      go_wp2_with fail
      refine (i_FormatN _ (by omega) (by omega) _ T1.out).mono ?_
      rintro e w2 ⟨rfl, hb2⟩
      have B2 := Lib.hid hb2
      clear hb2
      go_wp2_with fail
      go_ret
      refine ⟨congrArg (fun s => Ending.returned (.string s)) ?_, B1.out.trans (B2.out.mono B1.out.size)⟩
      have e0 : (⟨#[]⟩ : ByteArray) = tx [] := rfl
      first
        | (show tx (Lib.decDigits (n / 1000).toNat) ++ tx [46] ++ (tx (49 :: dig3 (n % 1000).toNat)).extract 1 4 = _
           rw [tx_cut, tx_app, tx_app, mText_nn n hv m0, show (n % 1000).toNat = n.toNat % 1000 by omega, dig3_mod, show (n / 1000).toNat = n.toNat / 1000 by omega]
           simp [mAbs]; done)
        | (show tx [] ++ tx (Lib.decDigits (n / 1000).toNat) ++ tx [46] ++ (tx (49 :: dig3 (n % 1000).toNat)).extract 1 4 = _
           rw [tx_cut, tx_app, tx_app, tx_app, mText_nn n hv m0, show (n % 1000).toNat = n.toNat % 1000 by omega, dig3_mod, show (n / 1000).toNat = n.toNat / 1000 by omega]
           simp [mAbs]; done)
  · have hv0 : isVB n = false := by simpa using hv
    clear hv
    go_enter Tryd.func8, Tryd.ntmps8
    go_wp2_with fail
    refine (i_isValue _ _).mono ?_
    rintro e w' ⟨rfl, rfl⟩
    go_wp2_with fail
    go_ret
    refine ⟨congrArg (fun s => Ending.returned (.string s)) ?_, Below.refl _ _⟩
    show tx [] = tx (mText n)
    unfold mText; rw [if_neg (by simp [hv0])]
theorem s_Abs (n : Int) (w : World) (h0 : -1000000000000 ≤ n) (h1 : n ≤ 1000000000000) : Calls Tryd.prog 21 #[.int .i64 n] w fun e w' => e = .returned (.int .i64 (n.natAbs : Int)) ∧ w = w' := by
  go_enter Tryd.func21, Tryd.ntmps21
  go_wp2
  all_goals
    go_ret
    exact ⟨ret_i64 (by omega), rfl⟩
theorem s_Dec1 (n : Int) (h0 : 0 ≤ n) (h1 : n < 10) (w : World) : Calls Tryd.prog 22 #[.int .i64 n] w (Texts w [dg1 n.toNat]) := by
  have := s_Dec 10 n w h0 (by omega) (by omega)
  rwa [dec_one _ (by omega)] at this
theorem s_DecN (n : Int) (h0 : 0 ≤ n) (h1 : n ≤ 9223372036854775807) (w : World) : Calls Tryd.prog 22 #[.int .i64 n] w (Texts w (Lib.decDigits n.toNat)) :=
  s_Dec (n.toNat + 1) n w h0 (by omega) h1
theorem s_MetresText (n : Int) (w : World) : Calls Tryd.prog 12 #[.int .i64 n] w (Texts w (mText n)) := by
  by_cases hv : isVB n = true
  · obtain ⟨v0, v1⟩ := (isVB_iff n).1 hv
    obtain ⟨m, hm⟩ : ∃ m : Nat, m = n.natAbs := ⟨_, rfl⟩
    have HM := Lib.hid hm
    have m1 : m ≤ 1000000000000 := by omega
    have hz := tx_dec (m / 1000) (by omega)
    clear hm
    rcases (show n < 0 ∨ 0 ≤ n by omega) with hneg | hneg
    all_goals
      go_enter Tryd.func12, Tryd.ntmps12
      go_wp2_with fail
      refine (s_Is _ _).mono ?_
      rintro e w' ⟨rfl, rfl⟩
      go_wp2_with fail
      refine (s_Abs _ _ v0 v1).mono ?_
      rintro e w' ⟨rfl, rfl⟩
      rw [← HM.out]
      go_wp2_with fail
      refine (s_DecN _ (by omega) (by omega) _).mono ?_
      rintro e w1 ⟨rfl, hb1⟩
      have B1 := Lib.hid hb1
      clear hb1
      go_wp2_with fail
      refine (s_Dec1 _ (by omega) (by omega) _).mono ?_
      rintro e w2 ⟨rfl, hb2⟩
      have B2 := Lib.hid (B1.out.trans (hb2.mono B1.out.size))
      clear hb2
      have hq : (tx [dg1 (m / 100 % 10)]).size = 1 := rfl
      go_wp2_with fail
      refine (s_Dec1 _ (by omega) (by omega) _).mono ?_
      rintro e w3 ⟨rfl, hb3⟩
      have B3 := Lib.hid (B2.out.trans (hb3.mono B2.out.size))
      clear hb3
      have hq2 : (tx [dg1 (m / 10 % 10)]).size = 1 := rfl
      go_wp2_with fail
      refine (s_Dec1 _ (by omega) (by omega) _).mono ?_
      rintro e w4 ⟨rfl, hb4⟩
      have B4 := Lib.hid (B3.out.trans (hb4.mono B3.out.size))
      clear hb4
      have hq3 : (tx [dg1 (m % 10)]).size = 1 := rfl
      go_wp2_with fail
      go_ret
      refine ⟨congrArg (fun s => Ending.returned (.string s)) ?_, B4.out⟩
      first
        | (show tx [45] ++ tx (Lib.decDigits (m / 1000)) ++ tx [46] ++ tx [dg1 (m / 100 % 10)] ++ tx [dg1 (m / 10 % 10)] ++ tx [dg1 (m % 10)] = tx (mText n)
           rw [tx_app, tx_app, tx_app, tx_app, tx_app]
           unfold mText
           rw [if_pos hv, if_pos hneg, ← HM.out]
           simp [mAbs, dig3]; done)
        | (show tx [] ++ tx (Lib.decDigits (m / 1000)) ++ tx [46] ++ tx [dg1 (m / 100 % 10)] ++ tx [dg1 (m / 10 % 10)] ++ tx [dg1 (m % 10)] = tx (mText n)
           rw [tx_app, tx_app, tx_app, tx_app, tx_app]
           unfold mText
           rw [if_pos hv, if_neg (by omega), ← HM.out]
           simp [mAbs, dig3]; done)
  · have hv0 : isVB n = false := by simpa using hv
    clear hv
    go_enter Tryd.func12, Tryd.ntmps12
    go_wp2_with fail
    refine (s_Is _ _).mono ?_
    rintro e w' ⟨rfl, rfl⟩
    go_wp2_with fail
    go_ret
    refine ⟨congrArg (fun s => Ending.returned (.string s)) ?_, Below.refl _ _⟩
    show tx [] = tx (mText n)
    unfold mText; rw [if_neg (by simp [hv0])]
end Go.Proofs.YtkkhmlnneijmgaaDoor
