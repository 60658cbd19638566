/- The walk of the law on gaps. -/
import Derived.Test.YtehinlecppbjeaaOcO
import Derived.Test.YtehinlecppbjeaaOcR
import Derived.Test.YtehinlecppbjeaaOcS
import Derived.Test.YtehinlecppbjeaaOcV
import Derived.Test.YtehinlecppbjeaaOcY
import Derived.Test.YtehinlecppbjeaaOcH
namespace Go.Proofs.Ytehinlecppbjeaa
open Go.RowKit
set_option maxHeartbeats 4000000
set_option linter.unusedVariables false
set_option linter.unusedSimpArgs false
theorem sep_two {L : List Sg} {x y q : Int} (h1 : trE L x q = 0) (h2 : trE L y q = 0) : sepB L [x, y] q = apB (totL L) y x q := by
  obtain ⟨hv, hn, hx⟩ := trE_ok h1
  obtain ⟨_, _, hy⟩ := trE_ok h2
  have ht : trsB (totL L) q [x, y] = true := by rw [trsB_two, hn, hx, hy]; rfl
  unfold sepB
  rw [hv, ht]
  simp [sepK, List.range_succ, gx]
theorem gap_not {L : List Sg} {x y q : Int} (h : gapE L x y q = 5) : sepB L [x, y] q = false := by
  have hr : ∀ z, trE L z q = 0 ∨ trE L z q = 1 ∨ trE L z q = 2 := fun z => by unfold trE; split <;> (try split) <;> simp
  have h1 : trE L x q = 0 := by
    rcases hr x with e | e | e
    · exact e
    · unfold gapE at h; rw [e] at h; simp at h
    · unfold gapE at h; rw [e] at h; simp at h
  have h2 : trE L y q = 0 := by
    rcases hr y with e | e | e
    · exact e
    · unfold gapE at h; rw [h1, e] at h; simp at h
    · unfold gapE at h; rw [h1, e] at h; simp at h
  rw [sep_two h1 h2]
  obtain ⟨hv, hn, hx⟩ := trE_ok h1
  obtain ⟨_, _, hy⟩ := trE_ok h2
  obtain ⟨n1, _, n2⟩ := (isN_iff _ _).1 hn
  rw [apB_sym ((isP_iff _ _).1 hy) ((isP_iff _ _).1 hx) n1]
  unfold gapE at h; rw [h1, h2] at h
  cases hb : apB (totL L) x y q
  · rfl
  · rw [hb] at h; simp at h
theorem gap_two {L : List Sg} {x y q : Int} (h : gapE L x y q = 0) : gapE L y x q = 0 ∧ 0 ≤ gapV L x y q ∧ 0 ≤ gapV L y x q ∧ gapV L x y q + gapV L y x q + 2 * q = totL L ∧ sepB L [x, y] q = true ∧ layB L = true ∧ totL L ≤ 4800000 ∧ 1 ≤ q ∧ q ≤ 40000 := by
  obtain ⟨h1, h2, hb⟩ := gapE_ok h
  obtain ⟨hv, hn, hx⟩ := trE_ok h1
  obtain ⟨_, _, hy⟩ := trE_ok h2
  obtain ⟨n1, n2, n3⟩ := (isN_iff _ _).1 hn
  have px := (isP_iff _ _).1 hx
  have py := (isP_iff _ _).1 hy
  have hb2 := hb
  rw [apB_sym px py n1] at hb2
  have h' : gapE L y x q = 0 := by unfold gapE; rw [h1, h2, hb2]; rfl
  have t := tot_bd hv
  have a1 := ahead_cases px py
  have a2 := ahead_cases py px
  refine ⟨h', ?_, ?_, ?_, by rw [sep_two h1 h2]; exact hb2, hv, t.2, n1, n2⟩
  all_goals
    unfold gapV
    simp only [h, h', if_pos]
    unfold apB at hb hb2
    simp at hb hb2
    omega
theorem wr_in {x : Int} (h1 : -9223372036854775808 ≤ x) (h2 : x ≤ 9223372036854775807) : IntKind.i64.wrap x = x := IntWalk.i64_in _ (by omega)
set_option maxRecDepth 100000 in
theorem walk_FnGaps (a0 : Option Addr) (len0 cap0 : Nat) (z0 : List Int) (w : World) (w0 : IsRow .u8 w a0 len0 cap0 z0) :
    Calls Try.prog 4 #[.slice a0 len0 cap0] w fun e w' => e = .returned (.bool true) ∧ Below w.heap.size w w' := by
  have HS := Lib.hid (isRow_bytes w0)
  clear w0
  by_cases hbig : 4096 < len0
  · go_enter Try.func4, Try.ntmps4
    go_wp2_with fail
    refine (l_big _ _ _ _).mono ?_
    rintro e w' ⟨rfl, rfl⟩
    go_wp2
    go_ret
    exact ⟨rfl, Below.refl _ _⟩
  go_enter Try.func4, Try.ntmps4
  go_wp2_with fail
  refine (l_big _ _ _ _).mono ?_
  rintro e w' ⟨rfl, rfl⟩
  go_wp2_with fail
  refine (s_DrawGapAhead _ _ _ _ HS.out).mono ?_
  rintro e w1 ⟨a, n, cap, L, x, y, q, rfl, hl, hcap, hx, hy, hq, bel⟩
  have L1 := Lib.hid hl
  have HX := Lib.hid hx; have HY := Lib.hid hy; have HQ := Lib.hid hq
  have B1 := Lib.hid (below_later bel)
  have KB : Hid (∀ W', Later (w1.alloc (.cells #[.slice a n cap] 26)) W' → W'.cell? ⟨w1.heap.size, 0, none⟩ = some (.slice a n cap)) := Lib.hid (fun W' k => by rw [k.cell (p := ⟨w1.heap.size, 0, none⟩) (by simp)]; simp)
  have X1 := Lib.hid (show Later w1 (w1.alloc (.cells #[.slice a n cap] 26)) from (Later.refl _).alloc _)
  clear hl bel hbig hx hy hq
  go_wp2_with fail
  refine (i_GapAhead a n cap L x y q _ (L1.out.later X1.out) HX.out HY.out).mono ?_
  rintro e w2 ⟨rfl, hb⟩
  have c2 := KB.out w2 hb
  have Y2 := Lib.hid hb
  clear hb
  go_wp2_with fail
  refine (s_GapAhead a n cap L x y q _ (L1.out.later (X1.out.trans Y2.out))).mono ?_
  rintro e w3 ⟨rfl, hb⟩
  have Y3 := Lib.hid (Y2.out.trans hb)
  have W3 : Hid (Later w w3) := Lib.hid (B1.out.trans (X1.out.trans Y3.out))
  clear hb c2 Y2
  go_wp2_with fail
  refine (s_DrawAreSeparate _ _ _ _ (HS.out.later W3.out)).mono ?_
  rintro e w4 ⟨a4, n4, cap4, M, A, m, capF, F, q4, rfl, hl, hcap4, hf, hmF, hm, hq4, bel⟩
  have L4 := Lib.hid hl
  have F4 := Lib.hid hf
  have B4 := Lib.hid (below_later bel)
  have KC : Hid (∀ W', Later (w4.alloc (.cells #[.slice a4 n4 cap4] 26)) W' → W'.cell? ⟨w4.heap.size, 0, none⟩ = some (.slice a4 n4 cap4)) := Lib.hid (fun W' k => by rw [k.cell (p := ⟨w4.heap.size, 0, none⟩) (by simp)]; simp)
  have X4 := Lib.hid (show Later w4 (w4.alloc (.cells #[.slice a4 n4 cap4] 26)) from (Later.refl _).alloc _)
  clear hl bel hf hq4 hm
  have e1 : (gapE L x y q != gapE L x y q) = false := by simp
  have e2 : (gapV L x y q != gapV L x y q) = false := by simp
  have e3 : (sepB M F q4 != sepB M F q4) = false := by simp
  go_wp2_with fail
  go_region_held3 (fun w' => w'.cell? ⟨w4.heap.size, 0, none⟩ = some (.slice a4 n4 cap4)) ((refine KC.out _ ?_; ((repeat (first | (with_reducible exact Later.refl _) | (with_reducible exact Hid.out (by assumption)) | (with_reducible refine Later.alloc ?_ _) | (with_reducible refine Later.setCell ?_ (by simp; omega) _) | (with_reducible refine Later.setCell ?_ (by simp) _) | (with_reducible refine Later.drewN ?_ _) | (with_reducible refine Later.drew ?_) | (with_reducible refine Later.trans ?_ (Hid.out (by assumption))))); done)))
    (first
      | (go_at_call 30; refine (i_AreSeparate a4 n4 cap4 M A m capF F q4 _ (L4.out.later (by repeat (first | (with_reducible exact Later.refl _) | (with_reducible exact Hid.out (by assumption)) | (with_reducible refine Later.alloc ?_ _) | (with_reducible refine Later.setCell ?_ (by simp; omega) _) | (with_reducible refine Later.setCell ?_ (by simp) _) | (with_reducible refine Later.drewN ?_ _) | (with_reducible refine Later.drew ?_) | (with_reducible refine Later.trans ?_ (Hid.out (by assumption)))))) (sl_lat F4.out (by repeat (first | (with_reducible exact Later.refl _) | (with_reducible exact Hid.out (by assumption)) | (with_reducible refine Later.alloc ?_ _) | (with_reducible refine Later.setCell ?_ (by simp; omega) _) | (with_reducible refine Later.setCell ?_ (by simp) _) | (with_reducible refine Later.drewN ?_ _) | (with_reducible refine Later.drew ?_) | (with_reducible refine Later.trans ?_ (Hid.out (by assumption)))))) hmF).mono ?_; rintro e w5 ⟨rfl, hb⟩; have Y5 := Lib.hid hb; clear hb)
      | (go_at_call 31; refine (s_AreSeparate a4 n4 cap4 M A m capF F q4 _ (L4.out.later (by repeat (first | (with_reducible exact Later.refl _) | (with_reducible exact Hid.out (by assumption)) | (with_reducible refine Later.alloc ?_ _) | (with_reducible refine Later.setCell ?_ (by simp; omega) _) | (with_reducible refine Later.setCell ?_ (by simp) _) | (with_reducible refine Later.drewN ?_ _) | (with_reducible refine Later.drew ?_) | (with_reducible refine Later.trans ?_ (Hid.out (by assumption)))))) (sl_lat F4.out (by repeat (first | (with_reducible exact Later.refl _) | (with_reducible exact Hid.out (by assumption)) | (with_reducible refine Later.alloc ?_ _) | (with_reducible refine Later.setCell ?_ (by simp; omega) _) | (with_reducible refine Later.setCell ?_ (by simp) _) | (with_reducible refine Later.drewN ?_ _) | (with_reducible refine Later.drew ?_) | (with_reducible refine Later.trans ?_ (Hid.out (by assumption))))))).mono ?_; rintro e w6 ⟨rfl, hb⟩; have Y6 := Lib.hid hb; clear hb))
  all_goals
    have Y9 : Hid (Later (w1.alloc (.cells #[.slice a n cap] 26)) w6) := Lib.hid (Y3.out.trans (B4.out.trans (X4.out.trans (Later.trans (Later.refl _).drew (Y5.out.trans Y6.out)))))
    have c6 := KB.out w6 Y9.out
    have W6 : Hid (Later w w6) := Lib.hid (B1.out.trans (X1.out.trans Y9.out))
    clear KC X4 B4 Y3 W3 F4 L4 e1 e2 e3 Y5 Y6
    by_cases he : gapE L x y q = 0
    · obtain ⟨g1, g2, g3, g4, g5, g6, g7, g8, g9⟩ := gap_two he
      have G1 := Lib.hid g1; have G5 := Lib.hid g5; have G6 := Lib.hid g6
      have LU := L1.out
      rw [he]
      generalize hu : gapV L x y q = u at g2 g4 ⊢
      obtain ⟨v, hv⟩ : ∃ v, v = gapV L y x q := ⟨_, rfl⟩
      rw [← hv] at g3 g4
      have HV := Lib.hid hv.symm
      obtain ⟨t, ht⟩ : ∃ t, t = totL L := ⟨_, rfl⟩
      rw [← ht] at g4 g7
      have HT := Lib.hid ht.symm
      have k1 : IntKind.i64.wrap (u + v) = u + v := wr_in (by omega) (by omega)
      have k2 : IntKind.i64.wrap (2 * q) = 2 * q := wr_in (by omega) (by omega)
      have k3 : IntKind.i64.wrap (u + v + 2 * q) = u + v + 2 * q := wr_in (by omega) (by omega)
      have k4 : (u + v + 2 * q == t) = true := by simpa using g4
      have G4 := Lib.hid g4
      clear he hu hv ht g1 g4 g5 g6 LU
      go_wp2_with fail
      refine (i_GapAhead a n cap L y x q _ (L1.out.later (X1.out.trans Y9.out)) HY.out HX.out).mono ?_
      rw [G1.out, HV.out]
      rintro e w7 ⟨rfl, hb⟩
      have Y7 := Lib.hid (Y9.out.trans hb)
      have c7 := KB.out w7 Y7.out
      clear hb c6
      go_wp2_with fail
      refine (i_TL_ok a n cap L _ (L1.out.later (X1.out.trans Y7.out)) G6.out).mono ?_
      rw [HT.out]
      rintro e w8 ⟨rfl, hb⟩
      have Y8 := Lib.hid (Y7.out.trans hb)
      have c8 := KB.out w8 Y8.out
      have W8 : Hid (Later w w8) := Lib.hid (B1.out.trans (X1.out.trans Y8.out))
      clear hb c7
      go_wp2_with fail
      refine (i_AreSeparate a n cap L _ 2 2 [x, y] q _ (L1.out.later ((X1.out.trans Y8.out).alloc _)) (sl_two _ _ _ _ HX.out HY.out) (by omega)).mono ?_
      rw [G5.out]
      rintro e w9 ⟨rfl, hb⟩
      have W9 : Hid (Later w w9) := Lib.hid ((W8.out.alloc _).trans hb)
      clear hb
      go_wp2_with fail
      go_ret
      exact ⟨rfl, W9.out⟩
    · have d1 : (gapE L x y q != 0) = true := by simpa using he
      clear he
      by_cases h5 : gapE L x y q = 5
      · have G5 := Lib.hid (gap_not h5)
        rw [h5]
        clear h5 d1
        go_wp2_with fail
        refine (i_AreSeparate a n cap L _ 2 2 [x, y] q _ (L1.out.later ((X1.out.trans Y9.out).alloc _)) (sl_two _ _ _ _ HX.out HY.out) (by omega)).mono ?_
        rw [G5.out]
        rintro e w9 ⟨rfl, hb⟩
        have W9 : Hid (Later w w9) := Lib.hid ((W6.out.alloc _).trans hb)
        clear hb
        go_wp2_with fail
        go_ret
        exact ⟨rfl, W9.out⟩
      · have d2 : (gapE L x y q != 5) = true := by simpa using h5
        clear h5
        go_wp2_with fail
        go_ret
        exact ⟨rfl, W6.out⟩
end Go.Proofs.Ytehinlecppbjeaa
