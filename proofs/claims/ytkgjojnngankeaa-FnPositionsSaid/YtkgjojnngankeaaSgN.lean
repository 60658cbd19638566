/- The walks of the laws on positions and heights. -/
import Derived.Test.YtkgjojnngankeaaSgJ
import Derived.Test.YtkgjojnngankeaaSgP
import Derived.Test.YtkgjojnngankeaaSgT
import Derived.Test.YtkgjojnngankeaaSgV
import Derived.Test.YtkgjojnngankeaaRow
namespace Go.Proofs.Ytkgjojnngankeaa
open Go.RowKit
set_option maxHeartbeats 4000000
set_option linter.unusedVariables false
set_option linter.unusedSimpArgs false
theorem s_SegmentAt_in (a : Option Addr) (n cap : Nat) (L : List Sg) (p : Int) (k : Nat) (w : World) (hs : Sgs w a n L) (hp : -9223372036854775808 ≤ p) (hp2 : p ≤ 9223372036854775807) (hv : layB L = true) (h : IsAt L p k) (h0 : 0 ≤ p) :
    Calls Try.prog 15 #[.agg #[.slice a n cap], .int .i64 p] w fun e w' => e = .returned (.tuple #[.int .i64 k, .int .i64 (p - upL L k), .int .i64 0]) ∧ Later w w' := by
  obtain ⟨e1, e2, e3, _⟩ := pos_in hv h h0
  have c := s_SegmentAt a n cap L p w hs hp hp2
  rw [e1, e2, e3] at c
  exact c
set_option maxRecDepth 100000 in
theorem walk_FnPositions (a0 : Option Addr) (len0 cap0 : Nat) (z0 : List Int) (w : World) (w0 : IsRow .u8 w a0 len0 cap0 z0) :
    Calls Try.prog 3 #[.slice a0 len0 cap0] w fun e w' => e = .returned (.bool true) ∧ Below w.heap.size w w' := by
  have HS := Lib.hid (isRow_bytes w0)
  clear w0
  by_cases hbig : 4096 < len0
  · go_enter Try.func3, Try.ntmps3
    go_wp2_with fail
    refine (l_big _ _ _ _).mono ?_
    rintro e w' ⟨rfl, rfl⟩
    go_wp2
    go_ret
    exact ⟨rfl, Below.refl _ _⟩
  · go_enter Try.func3, Try.ntmps3
    go_wp2_with fail
    refine (l_big _ _ _ _).mono ?_
    rintro e w' ⟨rfl, rfl⟩
    go_wp2_with fail
    refine (s_DrawSegmentAt _ _ _ _ HS.out).mono ?_
    rintro e w1 ⟨a, n, cap, L, p, rfl, hl, hcap, ⟨hp1, hp2⟩, _, bel⟩
    have L1 := Lib.hid hl
    have HL := Lib.hid hl.1
    have B1 := Lib.hid bel
    have X1 := Lib.hid (show Later w1 (w1.alloc (.cells #[.slice a n cap] 26)) from (Later.refl _).alloc _)
    clear hl bel hbig HS
    by_cases he : posE L p = 0
    · obtain ⟨hv, h0, h1⟩ := posE_ok he
      obtain ⟨k, hk⟩ : ∃ k, IsAt L p k := ⟨_, pos_at he⟩
      have HV := Lib.hid hv; have HK := Lib.hid hk
      have HT : Hid (tlV L = totL L ∧ tlE L = 0) := Lib.hid (by unfold tlV tlE; rw [hv]; simp)
      have HST : Hid (strs L = sFst L n) := Lib.hid (by unfold strs sFst; rw [hv, HL.out]; simp)
      obtain ⟨k1, k2, k3⟩ := hk
      rw [HL.out] at k1
      rw [upL_succ L k (by rw [HL.out]; exact k1)] at k3
      clear he hv
      go_wp2_with fail
      refine (i_SegmentAt_in _ n cap L p k _ (L1.out.later X1.out) hp1 hp2 HV.out HK.out h0).mono ?_
      rintro e w2 ⟨rfl, hb⟩
      have W2 : Hid (Later w1 w2) := Lib.hid (X1.out.trans hb)
      have c2 : w2.cell? ⟨w1.heap.size, 0, none⟩ = some (.slice a n cap) := by rw [hb.cell (p := ⟨w1.heap.size, 0, none⟩) (by simp)]; simp
      have z2 : w1.heap.size < w2.heap.size := by have := hb.size; simp at this; omega
      clear hb
      go_wp2_with fail
      refine (s_SegmentAt_in _ n cap L p k _ (L1.out.later W2.out) hp1 hp2 HV.out HK.out h0).mono ?_
      rintro e w3 ⟨rfl, hb⟩
      have W3 : Hid (Later w1 w3) := Lib.hid (W2.out.trans hb)
      have c3 : w3.cell? ⟨w1.heap.size, 0, none⟩ = some (.slice a n cap) := by rw [hb.cell (p := ⟨w1.heap.size, 0, none⟩) z2]; exact c2
      have z3 : w1.heap.size < w3.heap.size := Nat.lt_of_lt_of_le z2 hb.size
      clear hb c2 z2
      have q1 : ((k : Int) != (k : Int)) = false := by simp
      have q2 : ((p - upL L k) != (p - upL L k)) = false := by simp
      go_wp2_with fail
      refine (i_SegmentStarts a n cap L _ (L1.out.later W3.out) hcap).mono ?_
      rw [show Started w3 L = fun e w' => ∃ v, e = .returned (.tuple #[v, .int .i64 0]) ∧ Own w' w3.heap.size v (sFst L n) ∧ Later w3 w' by unfold Started; rw [HT.out.2, HST.out]]
      rintro e w4 ⟨v, rfl, ho, hb⟩
      have W4 : Hid (Later w1 w4) := Lib.hid (W3.out.trans hb)
      have c4 : w4.cell? ⟨w1.heap.size, 0, none⟩ = some (.slice a n cap) := by rw [hb.cell (p := ⟨w1.heap.size, 0, none⟩) z3]; exact c3
      have z4 : w1.heap.size < w4.heap.size := Nat.lt_of_lt_of_le z3 hb.size
      have O4 := Lib.hid ho
      clear hb c3 z3
      rcases ho.1.2 with ⟨_, e⟩ | ⟨g, cap5, cur, rfl, hg, _⟩
      · rw [sFst_len] at e; omega
      rw [sFst_len]
      have hgl := (ho.1.lt g rfl).2
      have hrow : w4.cell? ⟨g, k, none⟩ = some (.int .i64 (upL L k)) := by
        rw [ho.1.cellAt k (by rw [sFst_len]; omega), List.getElem?_map]
        simp [sFst, k1]
      clear ho O4
      go_wp2_with fail
      refine (i_TrackLength a n cap L _ (L1.out.later W4.out)).mono ?_
      rw [HT.out.1, HT.out.2]
      rintro e w5 ⟨rfl, hb⟩
      have W5 : Hid (Later w1 w5) := Lib.hid (W4.out.trans hb)
      have c5 : w5.cell? ⟨w1.heap.size, 0, none⟩ = some (.slice a n cap) := by rw [hb.cell (p := ⟨w1.heap.size, 0, none⟩) z4]; exact c4
      have r5 : w5.cell? ⟨g, k, none⟩ = some (.int .i64 (upL L k)) := by rw [hb.cell (p := ⟨g, k, none⟩) hgl]; exact hrow
      have z5 : w1.heap.size < w5.heap.size := Nat.lt_of_lt_of_le z4 hb.size
      obtain ⟨b, off, rfl, hbb, hc⟩ := (L1.out.later W5.out).at k k1
      obtain ⟨s0, s1, s2, s3, s4, s5, s6⟩ := hc
      have q3 : 0 ≤ p - upL L k := by omega
      have q4 : p - upL L k < (sx L k).l := by omega
      have q5 : upL L k + (p - upL L k) = p := by omega
      have q6 : ((upL L k + (p - upL L k)) == p) = true := by simp; omega
      have q7 : ((n : Int) == (n : Int)) = true := by simp
      have hk0 : 0 ≤ upL L k := by
        obtain ⟨_, _, ho, _⟩ := (layB_iff L).1 HV.out
        have := (up_bd L k (by rw [HL.out]; omega) (okB_le L L.length k (by rw [HL.out]; omega) ho)).2.2.1
        omega
      have HQ := Lib.hid q5
      clear hb c4 hrow z4 q1 q2 s0 s2 s3 s4 s5 s6 q5 hgl
      go_wp2_with fail
      go_ret
      exact ⟨rfl, B1.out.trans (W5.out.mono B1.out.size)⟩
    · have e1 : (posK L p != posK L p) = false := by simp
      have e2 : (posO L p != posO L p) = false := by simp
      have e3 : (posE L p != posE L p) = false := by simp
      have e4 : (posE L p != 0) = true := by simpa using he
      have key : (tlE L != 0) = true ∨ ((tlE L != 0) = false ∧ (p < 0 ∨ (0 ≤ p ∧ tlV L ≤ p))) := by
        cases hv : layB L
        · left; unfold tlE; rw [hv]; simp
        · right
          refine ⟨by unfold tlE; rw [hv]; simp, ?_⟩
          unfold tlV; rw [hv, if_pos rfl]
          unfold posE at he; rw [if_pos hv] at he
          by_cases hq : 0 ≤ p ∧ p < totL L
          · rw [if_pos hq] at he; exact absurd rfl he
          · omega
      clear he
      rcases key with k1 | ⟨k1, k2 | ⟨k2, k3⟩⟩
      all_goals
        go_wp2_with fail
        refine (i_SegmentAt a n cap L p _ (L1.out.later X1.out) hp1 hp2).mono ?_
        rintro e w2 ⟨rfl, hb⟩
        have W2 : Hid (Later w1 w2) := Lib.hid (X1.out.trans hb)
        have c2 : w2.cell? ⟨w1.heap.size, 0, none⟩ = some (.slice a n cap) := by rw [hb.cell (p := ⟨w1.heap.size, 0, none⟩) (by simp)]; simp
        have z2 : w1.heap.size < w2.heap.size := by have := hb.size; simp at this; omega
        clear hb
        go_wp2_with fail
        refine (s_SegmentAt a n cap L p _ (L1.out.later W2.out) hp1 hp2).mono ?_
        rintro e w3 ⟨rfl, hb⟩
        have W3 : Hid (Later w1 w3) := Lib.hid (W2.out.trans hb)
        have c3 : w3.cell? ⟨w1.heap.size, 0, none⟩ = some (.slice a n cap) := by rw [hb.cell (p := ⟨w1.heap.size, 0, none⟩) z2]; exact c2
        have z3 : w1.heap.size < w3.heap.size := Nat.lt_of_lt_of_le z2 hb.size
        clear hb c2 z2
        go_wp2_with fail
        refine (i_SegmentStarts a n cap L _ (L1.out.later W3.out) hcap).mono ?_
        rintro e w4 ⟨v, rfl, ho, hb⟩
        have W4 : Hid (Later w1 w4) := Lib.hid (W3.out.trans hb)
        have c4 : w4.cell? ⟨w1.heap.size, 0, none⟩ = some (.slice a n cap) := by rw [hb.cell (p := ⟨w1.heap.size, 0, none⟩) z3]; exact c3
        have z4 : w1.heap.size < w4.heap.size := Nat.lt_of_lt_of_le z3 hb.size
        clear hb c3 z3 ho
        go_wp2_with fail
        refine (i_TrackLength a n cap L _ (L1.out.later W4.out)).mono ?_
        rintro e w5 ⟨rfl, hb⟩
        have W5 : Hid (Later w1 w5) := Lib.hid (W4.out.trans hb)
        clear hb c4 z4
        go_wp2_with fail
        go_ret
        exact ⟨rfl, B1.out.trans (W5.out.mono B1.out.size)⟩
theorem i_HeightAt_in (a : Option Addr) (n cap : Nat) (L : List Sg) (p H : Int) (w : World) (hs : Sgs w a n L) (hcap : n ≤ cap) (hp : -9223372036854775808 ≤ p) (hp2 : p ≤ 9223372036854775807) (e1 : posE L p = 0) (e2 : posH L p = H) :
    Calls Try.prog 19 #[.agg #[.slice a n cap], .int .i64 p] w fun e w' => e = .returned (.tuple #[.int .i64 H, .int .i64 0]) ∧ Later w w' := by
  have c := i_HeightAt a n cap L p w hs hcap hp hp2
  rw [e1, e2] at c
  exact c
theorem s_HeightAt_in (a : Option Addr) (n cap : Nat) (L : List Sg) (p H : Int) (w : World) (hs : Sgs w a n L) (hp : -9223372036854775808 ≤ p) (hp2 : p ≤ 9223372036854775807) (e1 : posE L p = 0) (e2 : posH L p = H) :
    Calls Try.prog 20 #[.agg #[.slice a n cap], .int .i64 p] w fun e w' => e = .returned (.tuple #[.int .i64 H, .int .i64 0]) ∧ Later w w' := by
  have c := s_HeightAt a n cap L p w hs hp hp2
  rw [e1, e2] at c
  exact c
set_option maxRecDepth 100000 in
theorem walk_FnHeights (a0 : Option Addr) (len0 cap0 : Nat) (z0 : List Int) (w : World) (w0 : IsRow .u8 w a0 len0 cap0 z0) :
    Calls Try.prog 4 #[.slice a0 len0 cap0] w fun e w' => e = .returned (.bool true) ∧ Below w.heap.size w w' := by
  have HS := Lib.hid (isRow_bytes w0)
  clear w0
  by_cases hbig : 4096 < len0
  · go_enter Try.func4, Try.ntmps4
    go_wp2_with fail
    refine (l_big _ _ _ _).mono ?_
    rintro e w' ⟨rfl, rfl⟩
    go_wp2
    go_ret
    exact ⟨rfl, Below.refl _ _⟩
  · go_enter Try.func4, Try.ntmps4
    go_wp2_with fail
    refine (l_big _ _ _ _).mono ?_
    rintro e w' ⟨rfl, rfl⟩
    go_wp2_with fail
    refine (s_DrawHeightAt _ _ _ _ HS.out).mono ?_
    rintro e w1 ⟨a, n, cap, L, p, rfl, hl, hcap, ⟨hp1, hp2⟩, _, bel⟩
    have L1 := Lib.hid hl
    have HL := Lib.hid hl.1
    have B1 := Lib.hid bel
    have X1 := Lib.hid (show Later w1 (w1.alloc (.cells #[.slice a n cap] 26)) from (Later.refl _).alloc _)
    clear hl bel hbig HS
    by_cases he : posE L p = 0
    · obtain ⟨hv, h0, h1⟩ := posE_ok he
      obtain ⟨k, hk⟩ : ∃ k, IsAt L p k := ⟨_, pos_at he⟩
      have HV := Lib.hid hv; have HK := Lib.hid hk; have HE := Lib.hid he
      have HH := Lib.hid (pos_in hv hk h0).2.2.2
      have HO := Lib.hid ((layB_iff L).1 hv).2.2.1
      have h24 := ((layB_iff L).1 hv).2.1
      rw [HL.out] at h24
      obtain ⟨k1, k2, k3⟩ := hk
      rw [HL.out] at k1
      have k3' := k3
      rw [upL_succ L k (by rw [HL.out]; exact k1)] at k3
      obtain ⟨b1, b2, b3, b4⟩ := up_bd L k (by rw [HL.out]; omega) (okB_le L L.length k (by rw [HL.out]; omega) HO.out)
      have hr := (sgB_iff _).1 (okB_at L L.length k (Nat.le_refl _) (by rw [HL.out]; exact k1) HO.out)
      have r1 := hr.2.1.1; have r2 := hr.2.1.2; have r3 := hr.2.2.1.1; have r4 := hr.2.2.1.2.1
      have f0 := flo_between (sx L k).r (p - upL L k) (sx L k).l (by omega) (by omega)
      have HB : Hid (posE L (upL L k) = 0 ∧ posH L (upL L k) = upR L k) := Lib.hid (by
        have hk' : IsAt L (upL L k) k := ⟨by rw [HL.out]; exact k1, by omega, by rw [upL_succ L k (by rw [HL.out]; exact k1)]; omega⟩
        obtain ⟨e1, _, _, e4⟩ := pos_in hv hk' (by omega)
        refine ⟨e1, ?_⟩
        rw [e4, Int.sub_self, Int.mul_zero, flo_zero _ (by omega)]
        omega)
      clear he hv hr h1 k3'
      obtain ⟨f, hf⟩ : ∃ f, f = flo ((sx L k).r * (p - upL L k)) (sx L k).l := ⟨_, rfl⟩
      have HF := Lib.hid hf
      rw [← hf] at f0
      obtain ⟨f1, f2⟩ := f0
      clear hf
      have HH2 : Hid (posH L p = upR L k + f) := Lib.hid (by rw [HH.out, HF.out])
      have hsub : p - (p - upL L k) = upL L k := by omega
      have g1 : ((upR L k + f) != (upR L k + f)) = false := by simp
      have g2 : ((k : Int) == (k : Int)) = true := by simp
      have g3 : ((p - upL L k) == (p - upL L k)) = true := by simp
      have g4 : min (upR L k) (upR L k + (sx L k).r) ≤ upR L k + f := by omega
      have g5 : upR L k + f ≤ max (upR L k) (upR L k + (sx L k).r) := by omega
      go_wp2_with fail
      refine (i_HeightAt_in a n cap L p _ _ (L1.out.later X1.out) hcap hp1 hp2 HE.out HH2.out).mono ?_
      rintro e w2 ⟨rfl, hb⟩
      have W2 : Hid (Later w1 w2) := Lib.hid (X1.out.trans hb)
      have c2 : w2.cell? ⟨w1.heap.size, 0, none⟩ = some (.slice a n cap) := by rw [hb.cell (p := ⟨w1.heap.size, 0, none⟩) (by simp)]; simp
      have z2 : w1.heap.size < w2.heap.size := by have := hb.size; simp at this; omega
      clear hb
      go_wp2_with fail
      refine (s_HeightAt_in a n cap L p _ _ (L1.out.later W2.out) hp1 hp2 HE.out HH2.out).mono ?_
      rintro e w3 ⟨rfl, hb⟩
      have W3 : Hid (Later w1 w3) := Lib.hid (W2.out.trans hb)
      have c3 : w3.cell? ⟨w1.heap.size, 0, none⟩ = some (.slice a n cap) := by rw [hb.cell (p := ⟨w1.heap.size, 0, none⟩) z2]; exact c2
      have z3 : w1.heap.size < w3.heap.size := Nat.lt_of_lt_of_le z2 hb.size
      clear hb c2 z2
      go_wp2_with fail
      refine (i_SegmentAt_in _ n cap L p k _ (L1.out.later W3.out) hp1 hp2 HV.out HK.out h0).mono ?_
      rintro e w4 ⟨rfl, hb⟩
      have W4 : Hid (Later w1 w4) := Lib.hid (W3.out.trans hb)
      have c4 : w4.cell? ⟨w1.heap.size, 0, none⟩ = some (.slice a n cap) := by rw [hb.cell (p := ⟨w1.heap.size, 0, none⟩) z3]; exact c3
      have z4 : w1.heap.size < w4.heap.size := Nat.lt_of_lt_of_le z3 hb.size
      clear hb c3 z3
      go_wp2_with fail
      refine (s_SegmentAt_in _ n cap L p k _ (L1.out.later W4.out) hp1 hp2 HV.out HK.out h0).mono ?_
      rintro e w5 ⟨rfl, hb⟩
      have W5 : Hid (Later w1 w5) := Lib.hid (W4.out.trans hb)
      have c5 : w5.cell? ⟨w1.heap.size, 0, none⟩ = some (.slice a n cap) := by rw [hb.cell (p := ⟨w1.heap.size, 0, none⟩) z4]; exact c4
      have z5 : w1.heap.size < w5.heap.size := Nat.lt_of_lt_of_le z4 hb.size
      clear hb c4 z4
      go_wp2_with fail
      refine (i_HeightAt_in a n cap L (upL L k) (upR L k) _ (L1.out.later W5.out) hcap (by omega) (by omega) HB.out.1 HB.out.2).mono ?_
      rintro e w6 ⟨rfl, hb⟩
      have W6 : Hid (Later w1 w6) := Lib.hid (W5.out.trans hb)
      have c6 : w6.cell? ⟨w1.heap.size, 0, none⟩ = some (.slice a n cap) := by rw [hb.cell (p := ⟨w1.heap.size, 0, none⟩) z5]; exact c5
      have z6 : w1.heap.size < w6.heap.size := Nat.lt_of_lt_of_le z5 hb.size
      clear hb c5 z5
      obtain ⟨b, off, rfl, hbb, hc⟩ := (L1.out.later W6.out).at k k1
      obtain ⟨s0, s1, s2, s3, s4, s5, s6⟩ := hc
      go_wp2_with fail
      all_goals
        go_ret
        exact ⟨by first | rfl | exact ret_b (decide_eq_true (by omega)), (B1.out.trans (W6.out.mono B1.out.size)).alloc (Nat.le_trans B1.out.size W6.out.size) _⟩
    · have e1 : (posH L p != posH L p) = false := by simp
      have e3 : (posE L p != posE L p) = false := by simp
      have e4 : (posE L p != 0) = true := by simpa using he
      clear he
      go_wp2_with fail
      refine (i_HeightAt a n cap L p _ (L1.out.later X1.out) hcap hp1 hp2).mono ?_
      rintro e w2 ⟨rfl, hb⟩
      have W2 : Hid (Later w1 w2) := Lib.hid (X1.out.trans hb)
      have c2 : w2.cell? ⟨w1.heap.size, 0, none⟩ = some (.slice a n cap) := by rw [hb.cell (p := ⟨w1.heap.size, 0, none⟩) (by simp)]; simp
      have z2 : w1.heap.size < w2.heap.size := by have := hb.size; simp at this; omega
      clear hb
      go_wp2_with fail
      refine (s_HeightAt a n cap L p _ (L1.out.later W2.out) hp1 hp2).mono ?_
      rintro e w3 ⟨rfl, hb⟩
      have W3 : Hid (Later w1 w3) := Lib.hid (W2.out.trans hb)
      have c3 : w3.cell? ⟨w1.heap.size, 0, none⟩ = some (.slice a n cap) := by rw [hb.cell (p := ⟨w1.heap.size, 0, none⟩) z2]; exact c2
      have z3 : w1.heap.size < w3.heap.size := Nat.lt_of_lt_of_le z2 hb.size
      clear hb c2 z2
      go_wp2_with fail
      go_ret
      exact ⟨rfl, B1.out.trans (W3.out.mono B1.out.size)⟩
end Go.Proofs.Ytkgjojnngankeaa
