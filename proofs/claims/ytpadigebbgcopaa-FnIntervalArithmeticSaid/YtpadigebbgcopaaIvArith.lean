/- The walk of the law on sums and differences of intervals. -/
import Derived.Test.YtpadigebbgcopaaIvLaw
namespace Go.Proofs.Ytpadigebbgcopaa
open Go.RowKit
set_option maxHeartbeats 4000000
set_option linter.unusedVariables false
set_option linter.unusedSimpArgs false
theorem op_0 {x y : Int} (h : opE true x y = 0) : opL true x y = x ∧ opH true x y = y ∧ isVB x = true ∧ isVB y = true := by
  have := wv_0 (show wvE x y = 0 from h)
  exact ⟨this.2.2.1, this.2.2.2, this.1, this.2.1⟩
theorem arith_contracts (x y z t : Int) : ∃ (s0 s1 e1 d0 d1 e2 : Int) (bx bz : Bool), Hid (∀ w, Calls Try.prog 16 #[.agg #[.int .i64 x, .int .i64 y], .agg #[.int .i64 z, .int .i64 t]] w fun e w' => e = .returned (.tuple #[.agg #[.int .i64 s0, .int .i64 s1], .int .i64 e1]) ∧ Later w w') ∧ Hid (∀ w, Calls Try.prog 17 #[.agg #[.int .i64 x, .int .i64 y], .agg #[.int .i64 z, .int .i64 t]] w fun e w' => e = .returned (.tuple #[.agg #[.int .i64 s0, .int .i64 s1], .int .i64 e1]) ∧ Later w w') ∧ Hid (∀ w, Calls Try.prog 18 #[.agg #[.int .i64 x, .int .i64 y], .agg #[.int .i64 z, .int .i64 t]] w fun e w' => e = .returned (.tuple #[.agg #[.int .i64 d0, .int .i64 d1], .int .i64 e2]) ∧ Later w w') ∧ Hid (∀ w, Calls Try.prog 19 #[.agg #[.int .i64 x, .int .i64 y], .agg #[.int .i64 z, .int .i64 t]] w fun e w' => e = .returned (.tuple #[.agg #[.int .i64 d0, .int .i64 d1], .int .i64 e2]) ∧ Later w w') ∧ Hid (∀ w, Calls Try.prog 20 #[.agg #[.int .i64 x, .int .i64 y]] w fun e w' => e = .returned (.bool bx) ∧ Later w w') ∧ Hid (∀ w, Calls Try.prog 20 #[.agg #[.int .i64 z, .int .i64 t]] w fun e w' => e = .returned (.bool bz) ∧ Later w w') ∧ Hid ((bx && bz) = false → e1 = 1) ∧ Hid (bx = true → -1000000000000 ≤ x ∧ x ≤ y ∧ y ≤ 1000000000000) ∧ Hid (bz = true → -1000000000000 ≤ z ∧ z ≤ t ∧ t ≤ 1000000000000) ∧ Hid (bx = true → bz = true → e1 = 0 → s0 = x + z ∧ s1 = y + t) ∧ Hid (bx = true → bz = true → e2 = 0 → d0 = x - t ∧ d1 = y - z) ∧ Hid (bx = true → bz = true → e1 = 0 → ∃ b0 b1 e3 : Int, Hid (∀ w, Calls Try.prog 18 #[.agg #[.int .i64 s0, .int .i64 s1], .agg #[.int .i64 z, .int .i64 t]] w fun e w' => e = .returned (.tuple #[.agg #[.int .i64 b0, .int .i64 b1], .int .i64 e3]) ∧ Later w w') ∧ Hid (e3 = 0 → ∀ w, Calls Try.prog 23 #[.agg #[.int .i64 x, .int .i64 y], .agg #[.int .i64 b0, .int .i64 b1]] w fun e w' => e = .returned (.bool true) ∧ Later w w')) := by
  refine ⟨_, _, _, _, _, _, _, _, Lib.hid (i_AddIntervals x y z t), Lib.hid (s_AddIntervals x y z t), Lib.hid (i_SubtractIntervals x y z t), Lib.hid (s_SubtractIntervals x y z t), Lib.hid (i_IsInterval x y), Lib.hid (i_IsInterval z t), ?_, ?_, ?_, ?_, ?_, ?_⟩
  · refine Lib.hid fun h => ?_
    rw [h]; rfl
  · exact Lib.hid fun h => by rw [ivB_iff] at h; omega
  · exact Lib.hid fun h => by rw [ivB_iff] at h; omega
  · refine Lib.hid fun h1 h2 h => ?_
    rw [h1, h2] at h ⊢
    have := op_0 h
    exact ⟨this.1, this.2.1⟩
  · refine Lib.hid fun h1 h2 h => ?_
    rw [h1, h2] at h ⊢
    have := op_0 h
    exact ⟨this.1, this.2.1⟩
  · refine Lib.hid fun h1 h2 h => ?_
    have hx := (ivB_iff _ _).1 h1
    have hz := (ivB_iff _ _).1 h2
    rw [h1, h2] at h ⊢
    simp only [Bool.and_self] at h ⊢
    obtain ⟨a, b, c, d⟩ := op_0 h
    have c' := (isVB_iff _).1 c
    have d' := (isVB_iff _).1 d
    rw [a, b]
    have hs : ivB (x + z) (y + t) = true := (ivB_iff _ _).2 (by omega)
    refine ⟨_, _, _, Lib.hid (i_SubtractIntervals _ _ z t), ?_⟩
    refine Lib.hid fun h3 w => ?_
    rw [hs, h2] at h3 ⊢
    simp only [Bool.and_self] at h3 ⊢
    obtain ⟨a2, b2, c2, d2⟩ := op_0 h3
    have c2' := (isVB_iff _).1 c2
    have d2' := (isVB_iff _).1 d2
    rw [a2, b2]
    have := i_IsWithin x y (x + z - t) (y + t - z) w
    have hw : winB (ivB x y && ivB (x + z - t) (y + t - z)) x y (x + z - t) (y + t - z) = true := by
      have : ivB (x + z - t) (y + t - z) = true := (ivB_iff _ _).2 (by omega)
      rw [h1, this]; simp [winB]; omega
    rwa [hw] at this
set_option maxRecDepth 100000 in
theorem walk_FnIntervalArithmetic (a0 : Option Addr) (len0 cap0 : Nat) (z0 : List Int) (w : World) (w0 : IsRow .u8 w a0 len0 cap0 z0) :
    Calls Try.prog 3 #[.slice a0 len0 cap0] w fun e w' => e = .returned (.bool true) ∧ Below w.heap.size w w' := by
  have HS := Lib.hid (isRow_bytes w0)
  clear w0
  by_cases hbig : 4096 < len0
  · go_enter Try.func3, Try.ntmps3
    go_wp2_with fail
    refine (l_big _ _ _ _).mono ?_
    rintro e w' ⟨rfl, rfl⟩
    go_wp2
    go_ret
    exact ⟨rfl, Below.refl _ _⟩
  · go_enter Try.func3, Try.ntmps3
    go_wp2_with fail
    refine (l_big _ _ _ _).mono ?_
    rintro e w' ⟨rfl, rfl⟩
    go_wp2_with fail
    refine (s_DrawAddIntervals _ _ _ _ HS.out).mono ?_
    rintro e w1 ⟨x, y, z, t, rfl, _, _, _, _, bel⟩
    have h1 := (((held_none w).later bel).box2 (.int .i64 x) (.int .i64 y) 25).box2 (.int .i64 z) (.int .i64 t) 25
    simp only [World.size_alloc] at h1
    have H1 := Lib.hid h1
    clear bel h1
    obtain ⟨s0, s1, e1, d0, d1, e2, bx, bz, C1, C2, C3, C4, C5, C6, F1, F2, F3, F4, F5, C7⟩ := arith_contracts x y z t
    go_wp2_with fail
    refine (C1.out _).mono ?_
    rintro e w2 ⟨rfl, hb⟩
    have H2 := Lib.hid ((H1.out.later hb).box2 (.int .i64 s0) (.int .i64 s1) 25)
    clear hb
    obtain ⟨p0, p1, p2, p3, p4, p5, _⟩ := Held.s6 H2.out
    go_wp2_with fail
    refine (C2.out _).mono ?_
    rintro e w3 ⟨rfl, hb⟩
    have H3 := Lib.hid ((H2.out.later hb).box2 (.int .i64 s0) (.int .i64 s1) 25)
    clear hb
    obtain ⟨q0, q1, q2, q3, q4, q5, q6, q7, _⟩ := Held.s8 H3.out
    clear p0 p1 p2 p3 p4 p5
    go_wp2_with fail
    refine (C3.out _).mono ?_
    rintro e w4 ⟨rfl, hb⟩
    have H4 := Lib.hid ((H3.out.later hb).box2 (.int .i64 d0) (.int .i64 d1) 25)
    clear hb
    obtain ⟨p0, p1, p2, p3, p4, p5, p6, p7, p8, p9, _⟩ := Held.s10 H4.out
    clear q0 q1 q2 q3 q4 q5 q6 q7
    go_wp2_with fail
    refine (C4.out _).mono ?_
    rintro e w5 ⟨rfl, hb⟩
    have H5 := Lib.hid ((H4.out.later hb).box2 (.int .i64 d0) (.int .i64 d1) 25)
    clear hb
    obtain ⟨q0, q1, q2, q3, q4, q5, q6, q7, q8, q9, q10, q11, _⟩ := Held.s12 H5.out
    clear p0 p1 p2 p3 p4 p5 p6 p7 p8 p9
    go_wp2_with fail
    refine (C5.out _).mono ?_
    rintro e w6 ⟨rfl, hb⟩
    have H6 := Lib.hid ((H5.out.later hb))
    clear hb
    obtain ⟨p0, p1, p2, p3, p4, p5, p6, p7, p8, p9, p10, p11, _⟩ := Held.s12 H6.out
    clear q0 q1 q2 q3 q4 q5 q6 q7 q8 q9 q10 q11
    cases bx
    · have E1 := F1.out (by simp)
      have f1 : (e1 == 1) = true := by simp [E1]
      clear E1
      go_wp2_with fail
      go_ret
      exact ⟨rfl, H6.out.is⟩
    obtain ⟨g1, g2, g3⟩ := F2.out rfl
    cases bz
    · have E1 := F1.out rfl
      have f1 : (e1 == 1) = true := by simp [E1]
      clear E1
      go_wp2_with fail
      refine (C6.out _).mono ?_
      rintro e w7 ⟨rfl, hb⟩
      have H7 := Lib.hid ((H6.out.later hb))
      clear hb
      go_wp2_with fail
      go_ret
      exact ⟨rfl, H7.out.is⟩
    obtain ⟨g4, g5, g6⟩ := F3.out rfl
    have F4' : Hid (e1 = 0 → s0 = x + z ∧ s1 = y + t) := Lib.hid (by first | exact F4.out rfl rfl | exact fun h => F4.out rfl rfl h)
    have F5' : Hid (e2 = 0 → d0 = x - t ∧ d1 = y - z) := Lib.hid (by first | exact F5.out rfl rfl | exact fun h => F5.out rfl rfl h)
    have C7' : Hid (e1 = 0 → ∃ b0 b1 e3 : Int, Hid (∀ w, Calls Try.prog 18 #[.agg #[.int .i64 s0, .int .i64 s1], .agg #[.int .i64 z, .int .i64 t]] w fun e w' => e = .returned (.tuple #[.agg #[.int .i64 b0, .int .i64 b1], .int .i64 e3]) ∧ Later w w') ∧ Hid (e3 = 0 → ∀ w, Calls Try.prog 23 #[.agg #[.int .i64 x, .int .i64 y], .agg #[.int .i64 b0, .int .i64 b1]] w fun e w' => e = .returned (.bool true) ∧ Later w w')) := Lib.hid (by first | exact C7.out rfl rfl | exact fun h => C7.out rfl rfl h)
    clear F4 F5 C7
    go_wp2_with fail
    refine (C6.out _).mono ?_
    rintro e w7 ⟨rfl, hb⟩
    have H7 := Lib.hid ((H6.out.later hb))
    clear hb
    obtain ⟨q0, q1, q2, q3, q4, q5, q6, q7, q8, q9, q10, q11, _⟩ := Held.s12 H7.out
    clear p0 p1 p2 p3 p4 p5 p6 p7 p8 p9 p10 p11
    go_wp2_with fail
    refine (l_roll _ _ _ _ _ (Bytes.held HS.out H7.out)).mono ?_
    rintro e w8 ⟨rfl, dice, lt, bel⟩
    have H8 := Lib.hid (H7.out.later bel)
    have D8 := Lib.hid (show Dice w8.drew w7.heap.size a0 len0 cap0 from dice)
    have hD := Lib.hid (Nat.le_refl w7.heap.size)
    have H8d := Lib.hid H8.out.drew
    clear dice lt bel
    clear q0 q1 q2 q3 q4 q5 q6 q7 q8 q9 q10 q11
    obtain ⟨p0, p1, p2, p3, p4, p5, p6, p7, p8, p9, p10, p11, _⟩ := Held.s12 H8.out
    go_upto_region 13 with (fail)
    go_cut [14, 15] (fun s14 s15 wx => ∃ u v : Int, s14 = .int .i64 u ∧ s15 = .int .i64 v ∧ x ≤ u ∧ u ≤ y ∧ z ≤ v ∧ v ≤ t ∧ Held [(w5.heap.size, 0, .int .i64 d0), (w5.heap.size, 1, .int .i64 d1), (w4.heap.size, 0, .int .i64 d0), (w4.heap.size, 1, .int .i64 d1), (w3.heap.size, 0, .int .i64 s0), (w3.heap.size, 1, .int .i64 s1), (w2.heap.size, 0, .int .i64 s0), (w2.heap.size, 1, .int .i64 s1), (w1.heap.size + 1, 0, .int .i64 z), (w1.heap.size + 1, 1, .int .i64 t), (w1.heap.size, 0, .int .i64 x), (w1.heap.size, 1, .int .i64 y)] w wx)
    case first =>
      have q1 : IntKind.i64.wrap (y - x) = y - x := IntWalk.i64_in _ (by omega)
      have q2 : IntKind.i64.wrap (y - x + 1) = y - x + 1 := IntWalk.i64_in _ (by omega)
      have q3 : IntKind.i64.wrap (t - z) = t - z := IntWalk.i64_in _ (by omega)
      have q4 : IntKind.i64.wrap (t - z + 1) = t - z + 1 := IntWalk.i64_in _ (by omega)
      go_region_held3 (fun w' => w'.cell? ⟨w1.heap.size + 1, 0, none⟩ = some (.int .i64 z) ∧ w'.cell? ⟨w1.heap.size + 1, 1, none⟩ = some (.int .i64 t) ∧ w'.cell? ⟨w1.heap.size, 0, none⟩ = some (.int .i64 x) ∧ w'.cell? ⟨w1.heap.size, 1, none⟩ = some (.int .i64 y))
        (first | exact ⟨Held.at HH.out _ _ _ (by simp), Held.at HH.out _ _ _ (by simp), Held.at HH.out _ _ _ (by simp), Held.at HH.out _ _ _ (by simp)⟩ | exact ⟨Held.at H8d.out _ _ _ (by simp), Held.at H8d.out _ _ _ (by simp), Held.at H8d.out _ _ _ (by simp), Held.at H8d.out _ _ _ (by simp)⟩)
        (first
          | (go_at_call 22; refine (l_below w7.heap.size a0 len0 cap0 _ _ (Hid.out (by assumption)) (by omega) (by omega)).mono ?_; rintro e w9 ⟨r, rfl, r0, r1, dice, gr⟩; have HH := Lib.hid (Held.grown (Hid.out (by assumption)) H7.out (Nat.le_refl _) gr); have DD := Lib.hid dice; have qx : IntKind.i64.wrap (x + r) = x + r ∨ True := Or.inr trivial; (try (have q5 : IntKind.i64.wrap (x + r) = x + r := IntWalk.i64_in _ (by omega))); (try (have q6 : IntKind.i64.wrap (z + r) = z + r := IntWalk.i64_in _ (by omega))); clear dice gr qx))
      all_goals
        go_wp2_with fail
        go_meet
        exact ⟨_, _, rfl, rfl, by omega, by omega, by omega, by omega, HH.out⟩
    case rest =>
      obtain ⟨u, v, rfl, rfl, u1, u2, v1, v2, h9⟩ := hcut
      have H9 := Lib.hid h9
      obtain ⟨q0, q1, q2, q3, q4, q5, q6, q7, q8, q9, q10, q11, _⟩ := Held.s12 H9.out
      clear h9
      by_cases k1 : e1 = 0
      · obtain ⟨hs0, hs1⟩ := F4'.out k1
        have a1 : (e1 == 0) = true := by simp [k1]
        have a2 : (e1 != 0) = false := by simp [k1]
        have p1 : s0 ≤ u + v := by omega
        have p2 : u + v ≤ s1 := by omega
        have nb1 : (s0 != x + z) = false := by simp [hs0]
        have nb2 : (s1 != y + t) = false := by simp [hs1]
        have K1 := Lib.hid k1
        clear hs0 hs1 k1
        obtain ⟨b0, b1, e3, B1, B2⟩ := C7'.out K1.out
        by_cases k2 : e2 = 0
        · obtain ⟨hd0, hd1⟩ := F5'.out k2
          have a3 : (e2 == 0) = true := by simp [k2]
          have p3 : d0 ≤ u - v := by omega
          have p4 : u - v ≤ d1 := by omega
          have nb3 : (d0 != x - t) = false := by simp [hd0]
          clear hd0 hd1 k2
          go_wp2_with fail
          refine (B1.out _).mono ?_
          rintro e w10 ⟨rfl, hb⟩
          have H10 := Lib.hid ((H9.out.later hb).box2 (.int .i64 b0) (.int .i64 b1) 25)
          clear hb
          obtain ⟨r0, r1, r2, r3⟩ := And.intro (Held.at H10.out w10.heap.size 0 (.int .i64 b0) (by simp)) (And.intro (Held.at H10.out w10.heap.size 1 (.int .i64 b1) (by simp)) (And.intro (Held.at H10.out w1.heap.size 0 (.int .i64 x) (by simp)) (Held.at H10.out w1.heap.size 1 (.int .i64 y) (by simp))))
          by_cases k3 : e3 = 0
          · have a4 : (e3 != 0) = false := by simp [k3]
            have K3 := Lib.hid k3
            clear k3
            go_wp2_with fail
            refine (B2.out K3.out _).mono ?_
            rintro e w11 ⟨rfl, hb⟩
            have H11 := Lib.hid (H10.out.later hb)
            clear hb
            go_wp2_with fail
            go_ret
            exact ⟨rfl, H11.out.is⟩
          · have a4 : (e3 != 0) = true := by simp [k3]
            clear k3
            go_wp2_with fail
            go_ret
            exact ⟨rfl, H10.out.is⟩
        · have a3 : (e2 == 0) = false := by simp [k2]
          clear k2
          go_wp2_with fail
          refine (B1.out _).mono ?_
          rintro e w10 ⟨rfl, hb⟩
          have H10 := Lib.hid ((H9.out.later hb).box2 (.int .i64 b0) (.int .i64 b1) 25)
          clear hb
          obtain ⟨r0, r1, r2, r3⟩ := And.intro (Held.at H10.out w10.heap.size 0 (.int .i64 b0) (by simp)) (And.intro (Held.at H10.out w10.heap.size 1 (.int .i64 b1) (by simp)) (And.intro (Held.at H10.out w1.heap.size 0 (.int .i64 x) (by simp)) (Held.at H10.out w1.heap.size 1 (.int .i64 y) (by simp))))
          by_cases k3 : e3 = 0
          · have a4 : (e3 != 0) = false := by simp [k3]
            have K3 := Lib.hid k3
            clear k3
            go_wp2_with fail
            refine (B2.out K3.out _).mono ?_
            rintro e w11 ⟨rfl, hb⟩
            have H11 := Lib.hid (H10.out.later hb)
            clear hb
            go_wp2_with fail
            go_ret
            exact ⟨rfl, H11.out.is⟩
          · have a4 : (e3 != 0) = true := by simp [k3]
            clear k3
            go_wp2_with fail
            go_ret
            exact ⟨rfl, H10.out.is⟩
      · have a1 : (e1 == 0) = false := by simp [k1]
        have a2 : (e1 != 0) = true := by simp [k1]
        clear k1
        by_cases k2 : e2 = 0
        · obtain ⟨hd0, hd1⟩ := F5'.out k2
          have a3 : (e2 == 0) = true := by simp [k2]
          have p3 : d0 ≤ u - v := by omega
          have p4 : u - v ≤ d1 := by omega
          have nb3 : (d0 != x - t) = false := by simp [hd0]
          clear hd0 hd1 k2
          go_wp2_with fail
          go_ret
          exact ⟨rfl, H9.out.is⟩
        · have a3 : (e2 == 0) = false := by simp [k2]
          clear k2
          go_wp2_with fail
          go_ret
          exact ⟨rfl, H9.out.is⟩
end Go.Proofs.Ytpadigebbgcopaa
