/- The walk of the law of chapter 6 on speeds and energies. -/
import Derived.Test.YthheoeeobikkhaaEnF
import Derived.Test.YthheoeeobikkhaaEnJ
import Derived.Test.YthheoeeobikkhaaEnT
import Derived.Test.YthheoeeobikkhaaRow
namespace Go.Proofs.Ythheoeeobikkhaa
open Go.RowKit
set_option maxHeartbeats 4000000
set_option linter.unusedVariables false
set_option linter.unusedSimpArgs false
theorem Held.b2 {l : List (Nat × Nat × Value)} {w0 W : World} (h : Held l w0 W) (v0 v1 : Value) (T : TypeId) : Held ((W.heap.size, 0, v0) :: (W.heap.size, 1, v1) :: l) w0 (W.alloc (.cells #[v0, v1] T)) :=
  held_box h W.heap.size [v0, v1] T rfl
theorem root_sq (v : Int) (h : 0 ≤ v) : rootD (v * v) = v ∧ rootU (v * v) = v := by
  have h1 : rootD (v * v) = v := (rootD_eq (v * v) v ⟨h, Int.le_refl _, by rw [sq_succ]; omega⟩).symm
  refine ⟨h1, ?_⟩
  unfold rootU
  rw [h1, if_neg (by omega)]
theorem rootU_ge (n : Int) (h : 0 ≤ n) : n ≤ rootU n * rootU n := by
  obtain ⟨a, b, c⟩ := rootD_is n h
  unfold rootU
  split
  · omega
  · omega
theorem rootU_le (n : Int) (h : 0 ≤ n) (m : Int) (hm : 0 ≤ m) (h2 : n ≤ m * m) : rootU n ≤ m := by
  obtain ⟨a, b, c⟩ := rootD_is n h
  unfold rootU
  split
  · rename_i hl
    by_cases e : rootD n + 1 ≤ m
    · exact e
    · have := sq_mono m (rootD n) hm (by omega); omega
  · by_cases e : rootD n ≤ m
    · exact e
    · have := sq_mono (m + 1) (rootD n) (by omega) (by omega)
      rw [sq_succ] at this; omega
/-- what the speeds of an interval are -/
theorem sp_facts (x y : Int) : ∃ p q c : Int, p = sdL x y ∧ q = sdH x y ∧ c = inE (enB x y) ∧ (enB x y != (c == 0)) = false ∧ 0 ≤ p ∧ p ≤ 100000 ∧ 0 ≤ q ∧ q ≤ 100000 ∧ (c = 0 → p * p ≤ x ∧ y ≤ q * q) := by
  refine ⟨_, _, _, rfl, rfl, rfl, ?_⟩
  cases h : enB x y
  · unfold sdL sdH inE
    rw [h]
    simp
  · have h1 := (enB_iff x y).1 h
    obtain ⟨a, b, c⟩ := rootD_is x (by omega)
    have hp : rootD x ≤ 100000 := by
      by_cases e : rootD x ≤ 100000
      · exact e
      · have := sq_mono 100001 (rootD x) (by omega) (by omega); omega
    have hq := rootU_le y (by omega) 100000 (by omega) (by omega)
    have hq0 : 0 ≤ rootU y := by
      obtain ⟨a, _, _⟩ := rootD_is y (by omega)
      unfold rootU; split <;> omega
    have hr := rootU_ge y (by omega)
    unfold sdL sdH inE
    rw [h]
    simp
    omega
set_option maxRecDepth 100000 in
theorem walk_FnEnergies (a0 : Option Addr) (len0 cap0 : Nat) (z0 : List Int) (w : World) (w0 : IsRow .u8 w a0 len0 cap0 z0) :
    Calls Try.prog 3 #[.slice a0 len0 cap0] w fun e w' => e = .returned (.bool true) ∧ Below w.heap.size w w' := by
  have HS := Lib.hid (isRow_bytes w0)
  clear w0
  by_cases hbig : 4096 < len0
  · go_enter Try.func3, Try.ntmps3
    go_wp2_with fail
    refine (l_big _ _ _ _).mono ?_
    rintro e w' ⟨rfl, rfl⟩
    go_wp2
    go_ret
    exact ⟨rfl, Below.refl _ _⟩
  · go_enter Try.func3, Try.ntmps3
    go_wp2_with fail
    refine (l_big _ _ _ _).mono ?_
    rintro e w' ⟨rfl, rfl⟩
    go_wp2_with fail
    refine (s_DrawEnergyOfSpeed _ _ _ _ HS.out).mono ?_
    rintro e w1 ⟨v, rfl, hv, bel⟩
    have B1 : Hid (Later w w1) := Lib.hid bel
    clear bel hv
    go_wp2_with fail
    refine (i_EnergyOfSpeed v _).mono ?_
    rintro e w2 ⟨rfl, hb⟩
    have B2 : Hid (Later w w2) := Lib.hid (B1.out.trans hb)
    clear hb
    go_wp2_with fail
    refine (s_EnergyOfSpeed v _).mono ?_
    rintro e w3 ⟨rfl, hb⟩
    have B3 : Hid (Later w w3) := Lib.hid (B2.out.trans hb)
    clear hb
    go_wp2_with fail
    refine (s_DrawSpeedOf _ _ _ _ (HS.out.later B3.out)).mono ?_
    rintro e w4 ⟨x, y, rfl, hx, hy, hb⟩
    have H4 := Lib.hid ((held_start w).later (B3.out.trans hb) |>.b2 (.int .i64 x) (.int .i64 y) 28)
    clear hb hx hy
    obtain ⟨p, q, c, hp, hq, hc, hec, p0, p1, q0, q1, hpq⟩ := sp_facts x y
    obtain ⟨a1, a2, _⟩ := Held.s2 H4.out
    have HP := Lib.hid hp; have HQ := Lib.hid hq; have HC := Lib.hid hc
    clear hp hq hc
    go_wp2_with fail
    refine (i_SpeedOf x y _).mono ?_
    rw [← HP.out, ← HQ.out, ← HC.out]
    rintro e w5 ⟨rfl, hb⟩
    have H5 := Lib.hid ((H4.out.later hb).b2 (.int .i64 p) (.int .i64 q) 28)
    obtain ⟨a1, a2, a3, a4, _⟩ := Held.s4 H5.out
    clear hb
    go_wp2_with fail
    refine (s_SpeedOf x y _).mono ?_
    rw [← HP.out, ← HQ.out, ← HC.out]
    rintro e w6 ⟨rfl, hb⟩
    have H6 := Lib.hid ((H5.out.later hb).b2 (.int .i64 p) (.int .i64 q) 28)
    obtain ⟨a1, a2, a3, a4, a5, a6, _⟩ := Held.s6 H6.out
    have e0 : (spE v != spE v) = false := by simp
    have e1 : (spV v != spV v) = false := by simp
    have e2 : (c != c) = false := by simp
    clear hb
    go_wp2_with fail
    refine (i_IsEnergy x y _).mono ?_
    rintro e w7 ⟨rfl, hb⟩
    have H7 := Lib.hid (H6.out.later hb)
    clear hb a1 a2 a3 a4 a5 a6
    obtain ⟨a1, a2, a3, a4, a5, a6, _⟩ := Held.s6 H7.out
    by_cases hsp : spE v = 0
    · obtain ⟨n, hn⟩ : ∃ n, n = spV v := ⟨_, rfl⟩
      have hv : 0 ≤ v ∧ v ≤ 100000 := by
        by_cases h : 0 ≤ v ∧ v ≤ 100000
        · exact h
        · unfold spE at hsp; rw [if_neg h] at hsp; cases hsp
      have hnv : n = v * v := by rw [hn]; unfold spV; rw [if_pos hv]
      have hvv := sq_mono v 100000 hv.1 hv.2
      have hvn := sq_nn v
      obtain ⟨r1, r2⟩ := root_sq v hv.1
      have he : enB n n = true := by rw [enB_iff]; omega
      have N1 : sdL n n = v := by unfold sdL; rw [he, if_pos rfl, hnv, r1]
      have N2 : sdH n n = v := by unfold sdH; rw [he, if_pos rfl, hnv, r2]
      have N3 : inE (enB n n) = 0 := by rw [he]; rfl
      have NN := Lib.hid (And.intro N1 (And.intro N2 N3))
      have HN := Lib.hid hn
      have hs0 : (spE v != 0) = false := by simp [hsp]
      clear hsp hnv hvv hvn r1 r2 he N1 N2 N3
      by_cases hc : c = 0
      · obtain ⟨pq1, pq2⟩ := hpq hc
        have m1 := sq_mono p 100000 p0 p1
        have m2 := sq_nn p
        have m3 := sq_mono q 100000 q0 q1
        have m4 := sq_nn q
        have hc2 : (c == 0) = true := by simp [hc]
        have hE : enB x y = true := by rw [hc2] at hec; simpa using hec
        clear hpq hc hec
        go_wp2_with fail
        rw [← HN.out]
        refine (i_SpeedOf n n _).mono ?_
        rw [NN.out.1, NN.out.2.1, NN.out.2.2]
        rintro e w8 ⟨rfl, hb⟩
        have H8 := Lib.hid ((H7.out.later hb).b2 (.int .i64 v) (.int .i64 v) 28)
        obtain ⟨b1, b2, _⟩ := H8.out.1 |> fun h => (⟨(h _ (List.mem_cons_self)).2, (h _ (List.mem_cons_of_mem _ (List.mem_cons_self))).2, trivial⟩ : _ ∧ _ ∧ True)
        clear hb
        go_wp2_with fail
        go_ret
        exact ⟨rfl, H8.out.is⟩
      · have hc2 : (c == 0) = false := by simpa using hc
        have hE : enB x y = false := by rw [hc2] at hec; simpa using hec
        clear hpq hc hec
        go_wp2_with fail
        rw [← HN.out]
        refine (i_SpeedOf n n _).mono ?_
        rw [NN.out.1, NN.out.2.1, NN.out.2.2]
        rintro e w8 ⟨rfl, hb⟩
        have H8 := Lib.hid ((H7.out.later hb).b2 (.int .i64 v) (.int .i64 v) 28)
        obtain ⟨b1, b2, _⟩ := H8.out.1 |> fun h => (⟨(h _ (List.mem_cons_self)).2, (h _ (List.mem_cons_of_mem _ (List.mem_cons_self))).2, trivial⟩ : _ ∧ _ ∧ True)
        clear hb
        go_wp2_with fail
        go_ret
        exact ⟨rfl, H8.out.is⟩
    · have hs0 : (spE v != 0) = true := by simpa using hsp
      clear hsp
      by_cases hc : c = 0
      · obtain ⟨pq1, pq2⟩ := hpq hc
        have m1 := sq_mono p 100000 p0 p1
        have m2 := sq_nn p
        have m3 := sq_mono q 100000 q0 q1
        have m4 := sq_nn q
        have hc2 : (c == 0) = true := by simp [hc]
        have hE : enB x y = true := by rw [hc2] at hec; simpa using hec
        clear hpq hc hec
        go_wp2_with fail
        go_ret
        exact ⟨rfl, H7.out.is⟩
      · have hc2 : (c == 0) = false := by simpa using hc
        have hE : enB x y = false := by rw [hc2] at hec; simpa using hec
        clear hpq hc hec
        go_wp2_with fail
        go_ret
        exact ⟨rfl, H7.out.is⟩
end Go.Proofs.Ythheoeeobikkhaa
