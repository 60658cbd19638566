/- The walk of the law on common parts, hulls and orders of intervals. -/
import Derived.Test.YtpadigebbgcopaaIvLaw
namespace Go.Proofs.Ytpadigebbgcopaa
open Go.RowKit
set_option maxHeartbeats 4000000
set_option linter.unusedVariables false
set_option linter.unusedSimpArgs false
/-- what the law asks of two valid intervals -/
theorem sets_facts (x y z t : Int) (h1 : ivB x y = true) (h2 : ivB z t = true) :
    let V := ivB x y && ivB z t
    let h0 := opL V (min x z) (max y t)
    let hh := opH V (min x z) (max y t)
    let c0 := cpL V (max x z) (min y t)
    let c1 := cpH V (max x z) (min y t)
    ordE V = 0 ∧ winB (ivB x y && ivB h0 hh) x y h0 hh = true ∧ winB (ivB z t && ivB h0 hh) z t h0 hh = true ∧
    (ordV V x y z t == 0) = (cpE V (max x z) (min y t) == 0) ∧
    (cpE V (max x z) (min y t) = 0 → winB (ivB c0 c1 && ivB x y) c0 c1 x y = true ∧ winB (ivB c0 c1 && ivB z t) c0 c1 z t = true) := by
  obtain ⟨g1, g2, g3, g4, g5⟩ := bounds_of_ivB h1
  obtain ⟨g6, g7, g8, g9, g10⟩ := bounds_of_ivB h2
  obtain ⟨e1, e2, e3⟩ := @op_valid (min x z) (max y t) (by omega) (by omega) (by omega) (by omega)
  have e4 : ivB (min x z) (max y t) = true := (ivB_iff _ _).2 (by omega)
  simp only [h1, h2, Bool.and_self, e1, e2, e3, e4]
  refine ⟨rfl, ?_, ?_, ?_, ?_⟩
  · simp [winB]; omega
  · simp [winB]; omega
  · unfold ordV cpE
    rw [Bool.eq_iff_iff]
    simp
    omega
  · intro h
    have hle : max x z ≤ min y t := by
      unfold cpE at h
      simp at h
      omega
    have e5 : cpL true (max x z) (min y t) = max x z := by simp only [cpL, if_true]; rw [if_neg (by omega)]
    have e6 : cpH true (max x z) (min y t) = min y t := by simp only [cpH, if_true]; rw [if_neg (by omega)]
    have e7 : ivB (max x z) (min y t) = true := (ivB_iff _ _).2 (by omega)
    rw [e5, e6, e7]
    constructor <;> simp [winB] <;> omega
theorem ordE_no {v : Bool} (h : ordE v = 0) : v = true := by
  unfold ordE at h; cases v <;> simp_all
theorem sets_contracts (x y z t : Int) : ∃ (c0 c1 ce h0 h1 he k ke : Int) (b : Bool), Hid (∀ w, Calls Try.prog 28 #[.agg #[.int .i64 x, .int .i64 y], .agg #[.int .i64 z, .int .i64 t]] w fun e w' => e = .returned (.tuple #[.agg #[.int .i64 c0, .int .i64 c1], .int .i64 ce]) ∧ Later w w') ∧ Hid (∀ w, Calls Try.prog 29 #[.agg #[.int .i64 x, .int .i64 y], .agg #[.int .i64 z, .int .i64 t]] w fun e w' => e = .returned (.tuple #[.agg #[.int .i64 c0, .int .i64 c1], .int .i64 ce]) ∧ Later w w') ∧ Hid (∀ w, Calls Try.prog 30 #[.agg #[.int .i64 x, .int .i64 y], .agg #[.int .i64 z, .int .i64 t]] w fun e w' => e = .returned (.tuple #[.agg #[.int .i64 h0, .int .i64 h1], .int .i64 he]) ∧ Later w w') ∧ Hid (∀ w, Calls Try.prog 31 #[.agg #[.int .i64 x, .int .i64 y], .agg #[.int .i64 z, .int .i64 t]] w fun e w' => e = .returned (.tuple #[.agg #[.int .i64 h0, .int .i64 h1], .int .i64 he]) ∧ Later w w') ∧ Hid (∀ w, Calls Try.prog 32 #[.agg #[.int .i64 x, .int .i64 y], .agg #[.int .i64 z, .int .i64 t]] w fun e w' => e = .returned (.tuple #[.int .i64 k, .int .i64 ke]) ∧ Later w w') ∧ Hid (∀ w, Calls Try.prog 33 #[.agg #[.int .i64 x, .int .i64 y], .agg #[.int .i64 z, .int .i64 t]] w fun e w' => e = .returned (.tuple #[.int .i64 k, .int .i64 ke]) ∧ Later w w') ∧ Hid (∀ w, Calls Try.prog 23 #[.agg #[.int .i64 x, .int .i64 y], .agg #[.int .i64 z, .int .i64 t]] w fun e w' => e = .returned (.bool b) ∧ Later w w') ∧ Hid (∀ w, Calls Try.prog 34 #[.agg #[.int .i64 x, .int .i64 y], .agg #[.int .i64 z, .int .i64 t]] w fun e w' => e = .returned (.bool b) ∧ Later w w') ∧ Hid (ke = 0 → ∀ w, Calls Try.prog 23 #[.agg #[.int .i64 x, .int .i64 y], .agg #[.int .i64 h0, .int .i64 h1]] w fun e w' => e = .returned (.bool true) ∧ Later w w') ∧ Hid (ke = 0 → ∀ w, Calls Try.prog 23 #[.agg #[.int .i64 z, .int .i64 t], .agg #[.int .i64 h0, .int .i64 h1]] w fun e w' => e = .returned (.bool true) ∧ Later w w') ∧ Hid (ke = 0 → (k == 0) = (ce == 0)) ∧ Hid (ke = 0 → ce = 0 → ∀ w, Calls Try.prog 23 #[.agg #[.int .i64 c0, .int .i64 c1], .agg #[.int .i64 x, .int .i64 y]] w fun e w' => e = .returned (.bool true) ∧ Later w w') ∧ Hid (ke = 0 → ce = 0 → ∀ w, Calls Try.prog 23 #[.agg #[.int .i64 c0, .int .i64 c1], .agg #[.int .i64 z, .int .i64 t]] w fun e w' => e = .returned (.bool true) ∧ Later w w') := by
  have key : ordE (ivB x y && ivB z t) = 0 → ivB x y = true ∧ ivB z t = true := fun h => by simpa using ordE_no h
  refine ⟨_, _, _, _, _, _, _, _, _, Lib.hid (i_CommonPart x y z t), Lib.hid (s_CommonPart x y z t), Lib.hid (i_HullOf x y z t), Lib.hid (s_HullOf x y z t), Lib.hid (i_CompareIntervals x y z t), Lib.hid (s_CompareIntervals x y z t), Lib.hid (i_IsWithin x y z t), Lib.hid (s_IsWithin x y z t), ?_, ?_, ?_, ?_, ?_⟩
  · refine Lib.hid fun h w => ?_
    obtain ⟨v1, v2⟩ := key h
    obtain ⟨_, f2, f3, f4, f5⟩ := sets_facts x y z t v1 v2
    have := i_IsWithin x y (opL (ivB x y && ivB z t) (min x z) (max y t)) (opH (ivB x y && ivB z t) (min x z) (max y t)) w
    rwa [f2] at this
  · refine Lib.hid fun h w => ?_
    obtain ⟨v1, v2⟩ := key h
    obtain ⟨_, f2, f3, f4, f5⟩ := sets_facts x y z t v1 v2
    have := i_IsWithin z t (opL (ivB x y && ivB z t) (min x z) (max y t)) (opH (ivB x y && ivB z t) (min x z) (max y t)) w
    rwa [f3] at this
  · refine Lib.hid fun h => ?_
    obtain ⟨v1, v2⟩ := key h
    exact (sets_facts x y z t v1 v2).2.2.2.1
  · refine Lib.hid fun h h2 w => ?_
    obtain ⟨v1, v2⟩ := key h
    obtain ⟨_, f2, f3, f4, f5⟩ := sets_facts x y z t v1 v2
    have := i_IsWithin (cpL (ivB x y && ivB z t) (max x z) (min y t)) (cpH (ivB x y && ivB z t) (max x z) (min y t)) x y w
    rwa [(f5 h2).1] at this
  · refine Lib.hid fun h h2 w => ?_
    obtain ⟨v1, v2⟩ := key h
    obtain ⟨_, f2, f3, f4, f5⟩ := sets_facts x y z t v1 v2
    have := i_IsWithin (cpL (ivB x y && ivB z t) (max x z) (min y t)) (cpH (ivB x y && ivB z t) (max x z) (min y t)) z t w
    rwa [(f5 h2).2] at this
set_option maxRecDepth 100000 in
theorem walk_FnIntervalSets (a0 : Option Addr) (len0 cap0 : Nat) (z0 : List Int) (w : World) (w0 : IsRow .u8 w a0 len0 cap0 z0) :
    Calls Try.prog 5 #[.slice a0 len0 cap0] w fun e w' => e = .returned (.bool true) ∧ Below w.heap.size w w' := by
  have HS := Lib.hid (isRow_bytes w0)
  clear w0
  by_cases hbig : 4096 < len0
  · go_enter Try.func5, Try.ntmps5
    go_wp2_with fail
    refine (l_big _ _ _ _).mono ?_
    rintro e w' ⟨rfl, rfl⟩
    go_wp2
    go_ret
    exact ⟨rfl, Below.refl _ _⟩
  · go_enter Try.func5, Try.ntmps5
    go_wp2_with fail
    refine (l_big _ _ _ _).mono ?_
    rintro e w' ⟨rfl, rfl⟩
    go_wp2_with fail
    refine (s_DrawCommonPart _ _ _ _ HS.out).mono ?_
    rintro e w1 ⟨x, y, z, t, rfl, _, _, _, _, bel⟩
    have h1 := (((held_none w).later bel).box2 (.int .i64 x) (.int .i64 y) 25).box2 (.int .i64 z) (.int .i64 t) 25
    simp only [World.size_alloc] at h1
    have H1 := Lib.hid h1
    clear bel h1
    obtain ⟨c0, c1, ce, h0, h1, he, k, ke, b, C1, C2, C3, C4, C5, C6, C7, C8, C9, C10, C11, C12, C13⟩ := sets_contracts x y z t
    go_wp2_with fail
    refine (C1.out _).mono ?_
    rintro e w2 ⟨rfl, hb⟩
    have H2 := Lib.hid ((H1.out.later hb).box2 (.int .i64 c0) (.int .i64 c1) 25)
    clear hb
    obtain ⟨p0, p1, p2, p3, p4, p5, _⟩ := Held.s6 H2.out
    go_wp2_with fail
    refine (C2.out _).mono ?_
    rintro e w3 ⟨rfl, hb⟩
    have H3 := Lib.hid ((H2.out.later hb).box2 (.int .i64 c0) (.int .i64 c1) 25)
    clear hb
    obtain ⟨q0, q1, q2, q3, q4, q5, q6, q7, _⟩ := Held.s8 H3.out
    clear p0 p1 p2 p3 p4 p5
    go_wp2_with fail
    refine (C3.out _).mono ?_
    rintro e w4 ⟨rfl, hb⟩
    have H4 := Lib.hid ((H3.out.later hb).box2 (.int .i64 h0) (.int .i64 h1) 25)
    clear hb
    obtain ⟨p0, p1, p2, p3, p4, p5, p6, p7, p8, p9, _⟩ := Held.s10 H4.out
    clear q0 q1 q2 q3 q4 q5 q6 q7
    go_wp2_with fail
    refine (C4.out _).mono ?_
    rintro e w5 ⟨rfl, hb⟩
    have H5 := Lib.hid ((H4.out.later hb).box2 (.int .i64 h0) (.int .i64 h1) 25)
    clear hb
    obtain ⟨q0, q1, q2, q3, q4, q5, q6, q7, q8, q9, q10, q11, _⟩ := Held.s12 H5.out
    clear p0 p1 p2 p3 p4 p5 p6 p7 p8 p9
    go_wp2_with fail
    refine (C5.out _).mono ?_
    rintro e w6 ⟨rfl, hb⟩
    have H6 := Lib.hid ((H5.out.later hb))
    clear hb
    obtain ⟨p0, p1, p2, p3, p4, p5, p6, p7, p8, p9, p10, p11, _⟩ := Held.s12 H6.out
    clear q0 q1 q2 q3 q4 q5 q6 q7 q8 q9 q10 q11
    go_wp2_with fail
    refine (C6.out _).mono ?_
    rintro e w7 ⟨rfl, hb⟩
    have H7 := Lib.hid ((H6.out.later hb))
    clear hb
    obtain ⟨q0, q1, q2, q3, q4, q5, q6, q7, q8, q9, q10, q11, _⟩ := Held.s12 H7.out
    clear p0 p1 p2 p3 p4 p5 p6 p7 p8 p9 p10 p11
    go_upto_region 10 with (fail)
    go_cut [96] (fun s96 wx => s96 = .bool false ∧ Held [(w5.heap.size, 0, .int .i64 h0), (w5.heap.size, 1, .int .i64 h1), (w4.heap.size, 0, .int .i64 h0), (w4.heap.size, 1, .int .i64 h1), (w3.heap.size, 0, .int .i64 c0), (w3.heap.size, 1, .int .i64 c1), (w2.heap.size, 0, .int .i64 c0), (w2.heap.size, 1, .int .i64 c1), (w1.heap.size + 1, 0, .int .i64 z), (w1.heap.size + 1, 1, .int .i64 t), (w1.heap.size, 0, .int .i64 x), (w1.heap.size, 1, .int .i64 y)] w wx)
    case first =>
      go_region_held3 (fun w' => w'.cell? ⟨w5.heap.size, 0, none⟩ = some (.int .i64 h0) ∧ w'.cell? ⟨w5.heap.size, 1, none⟩ = some (.int .i64 h1) ∧ w'.cell? ⟨w4.heap.size, 0, none⟩ = some (.int .i64 h0) ∧ w'.cell? ⟨w4.heap.size, 1, none⟩ = some (.int .i64 h1) ∧ w'.cell? ⟨w3.heap.size, 0, none⟩ = some (.int .i64 c0) ∧ w'.cell? ⟨w3.heap.size, 1, none⟩ = some (.int .i64 c1) ∧ w'.cell? ⟨w2.heap.size, 0, none⟩ = some (.int .i64 c0) ∧ w'.cell? ⟨w2.heap.size, 1, none⟩ = some (.int .i64 c1) ∧ w'.cell? ⟨w1.heap.size + 1, 0, none⟩ = some (.int .i64 z) ∧ w'.cell? ⟨w1.heap.size + 1, 1, none⟩ = some (.int .i64 t) ∧ w'.cell? ⟨w1.heap.size, 0, none⟩ = some (.int .i64 x) ∧ w'.cell? ⟨w1.heap.size, 1, none⟩ = some (.int .i64 y)) (exact (fun h => ⟨h.1, h.2.1, h.2.2.1, h.2.2.2.1, h.2.2.2.2.1, h.2.2.2.2.2.1, h.2.2.2.2.2.2.1, h.2.2.2.2.2.2.2.1, h.2.2.2.2.2.2.2.2.1, h.2.2.2.2.2.2.2.2.2.1, h.2.2.2.2.2.2.2.2.2.2.1, h.2.2.2.2.2.2.2.2.2.2.2.1⟩) (Held.s12 (Held.later H7.out (by repeat (first | exact Later.refl _ | refine Later.drew ?_ | refine Later.drewN ?_ _ | refine Later.alloc ?_ _ | refine Later.trans ?_ (Hid.out (by assumption)) | refine Later.set_at ?_ ?_ _ _)))))
        (first
          | (go_at_call 23; refine (C7.out _).mono ?_; rintro e w8 ⟨rfl, hb⟩; have H8 := Lib.hid hb; clear hb)
          | (go_at_call 34; refine (C8.out _).mono ?_; rintro e w8 ⟨rfl, hb⟩; have H8 := Lib.hid hb; clear hb))
      all_goals
        go_wp2_with fail
        go_meet
        exact ⟨rfl, Held.later H7.out (by repeat (first | exact Later.refl _ | refine Later.drew ?_ | refine Later.drewN ?_ _ | refine Later.alloc ?_ _ | refine Later.trans ?_ (Hid.out (by assumption)) | refine Later.set_at ?_ ?_ _ _))⟩
    case rest =>
      obtain ⟨rfl, h8⟩ := hcut
      have H8 := Lib.hid h8
      clear h8 q0 q1 q2 q3 q4 q5 q6 q7 q8 q9 q10 q11
      obtain ⟨q0, q1, q2, q3, q4, q5, q6, q7, q8, q9, q10, q11, _⟩ := Held.s12 H8.out
      by_cases hk : ke = 0
      · have e0 : (ke != 0) = false := by simp [hk]
        have HK := Lib.hid hk
        have e1 := C11.out hk
        clear hk
        go_wp2_with fail
        refine (C9.out HK.out _).mono ?_
        rintro e w9 ⟨rfl, hb⟩
        have H9 := Lib.hid (H8.out.later hb)
        clear hb q0 q1 q2 q3 q4 q5 q6 q7 q8 q9 q10 q11
        obtain ⟨q0, q1, q2, q3, q4, q5, q6, q7, q8, q9, q10, q11, _⟩ := Held.s12 H9.out
        go_wp2_with fail
        refine (C10.out HK.out _).mono ?_
        rintro e w10 ⟨rfl, hb⟩
        have H10 := Lib.hid (H9.out.later hb)
        clear hb q0 q1 q2 q3 q4 q5 q6 q7 q8 q9 q10 q11
        obtain ⟨q0, q1, q2, q3, q4, q5, q6, q7, q8, q9, q10, q11, _⟩ := Held.s12 H10.out
        by_cases hc : ce = 0
        · have e2 : (ce != 0) = false := by simp [hc]
          have HC := Lib.hid hc
          clear hc
          go_wp2_with fail
          refine (C12.out HK.out HC.out _).mono ?_
          rintro e w11 ⟨rfl, hb⟩
          have H11 := Lib.hid (H10.out.later hb)
          clear hb q0 q1 q2 q3 q4 q5 q6 q7 q8 q9 q10 q11
          obtain ⟨q0, q1, q2, q3, q4, q5, q6, q7, q8, q9, q10, q11, _⟩ := Held.s12 H11.out
          go_wp2_with fail
          refine (C13.out HK.out HC.out _).mono ?_
          rintro e w12 ⟨rfl, hb⟩
          have H12 := Lib.hid (H11.out.later hb)
          clear hb q0 q1 q2 q3 q4 q5 q6 q7 q8 q9 q10 q11
          go_wp2_with fail
          go_ret
          exact ⟨rfl, H12.out.is⟩
        · have e2 : (ce != 0) = true := by simp [hc]
          clear hc
          go_wp2_with fail
          go_ret
          exact ⟨rfl, H10.out.is⟩
      · have e0 : (ke != 0) = true := by simp [hk]
        clear hk
        go_wp2_with fail
        go_ret
        exact ⟨rfl, H8.out.is⟩
end Go.Proofs.Ytpadigebbgcopaa
