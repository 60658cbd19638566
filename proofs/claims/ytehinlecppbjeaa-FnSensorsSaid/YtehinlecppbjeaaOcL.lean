/- Drawn fronts of chapter 5. -/
import Derived.Test.YtehinlecppbjeaaOcK
namespace Go.Proofs.Ytehinlecppbjeaa
open Go.RowKit
set_option maxHeartbeats 4000000
set_option linter.unusedVariables false
set_option linter.unusedSimpArgs false
set_option maxRecDepth 100000 in
theorem s_l05ModE (n T : Int) (w : World) (hT : 0 < T) (hT2 : T ≤ 4000000000000000000) (hn : -9223372036854775808 ≤ n) (hn2 : n ≤ 9223372036854775807) :
    Calls Try.prog 78 #[.int .i64 n, .int .i64 T] w fun e w' => ∃ r : Int, e = .returned (.int .i64 r) ∧ 0 ≤ r ∧ r < T ∧ w = w' :=
  (s_l05Mod n T w hT hT2 hn hn2).mono fun _ _ ⟨h1, h2⟩ => ⟨n % T, h1, (mod_rng n T hT).1, (mod_rng n T hT).2, h2⟩
set_option maxRecDepth 100000 in
theorem s_DrawFronts5 (B : Nat) (a : Option Addr) (len cap : Nat) (a' : Option Addr) (n cap' : Nat) (L : List Sg) (q : Int) (w : World) (hs : Src w B a len cap) (hl : Sgs w a' n L) (h26 : n ≤ 26) (hsm : ∀ x ∈ L, SmW x) (hq : -300000000 ≤ q) (hq2 : q ≤ 300000000) :
    Calls Try.prog 83 #[.pointer (some ⟨B, 0, none⟩), .agg #[.slice a' n cap'], .int .i64 q] w (DrawnOL w B a len cap) := by
  have HS := Lib.hid hs
  have HL := Lib.hid hl
  have SM := Lib.hid hsm
  obtain ⟨t1, t2⟩ := tot_sm hl.1 h26 hsm
  have hBlt := hs.lt
  clear hs hl hsm
  have key : ∀ m : Int, (totL L ≤ 1 ∧ m = 1) ∨ (1 < totL L ∧ m = totL L) → Calls Try.prog 83 #[.pointer (some ⟨B, 0, none⟩), .agg #[.slice a' n cap'], .int .i64 q] w (DrawnOL w B a len cap) := by
    intro m hm
    go_enter Try.func83, Try.ntmps83
    go_wp2_with fail
    have T0 := Lib.hid ((St.begin HS.out).alloc (.cells #[.slice a' n cap'] 26))
    refine (s_Total_sm a' n cap' L _ (HL.out.later ((Later.refl _).alloc _)) h26 SM.out).mono ?_
    rintro e w1 ⟨rfl, hb⟩
    have T1 := Lib.hid (T0.out.later hb)
    clear hb T0
    obtain ⟨t, ht, hmt⟩ : ∃ t, t = totL L ∧ ((t ≤ 1 ∧ m = 1) ∨ (1 < t ∧ m = t)) := ⟨_, rfl, hm⟩
    rw [← ht] at t1 t2 ⊢
    clear ht hm
    rcases hmt with ⟨h1, hm1⟩ | ⟨h1, hm1⟩
    · clear hm1
      go_wp2_with fail
      have OA : Hid (Own (w1.alloc (.cells #[] 2)) w.heap.size (.slice (some ⟨w1.heap.size, 0, none⟩) 0 0) []) := Lib.hid (own_new w1 w.heap.size T1.out.le)
      have TA := Lib.hid (T1.out.alloc (.cells #[] 2))
      refine (s_Next B a len cap _ _ TA.out.src (by omega) (by omega)).mono ?_
      rintro e w2 ⟨x, rfl, x0, x1, x2, src, gr⟩
      have T2 := Lib.hid (TA.out.call src gr)
      have hx : x ≤ 300000000 := by first | (have := x1 (by omega); omega) | (have := x2 (by omega); omega)
      have O2 := Lib.hid (OA.out.kept gr (by intro k hk; cases hk; omega))
      clear gr src x1 x2
      go_wp2_with fail
      refine (s_Next B a len cap 5 _ T2.out.src (by omega) (by omega)).mono ?_
      rintro e w3 ⟨k0, rfl, k00, k01, k02, src, gr⟩
      have T3 := Lib.hid (T2.out.call src gr)
      have hk0 := k01 (by omega)
      have O3 := Lib.hid (O2.out.kept gr (by intro k hk; cases hk; omega))
      obtain ⟨kn, rfl⟩ := Int.eq_ofNat_of_zero_le k00
      clear gr src k01 k02 k00
      go_wp2_with fail
      go_loopw [8, 9, 10] (fun v at' k' wr => ∃ (l : List Int) (x : Int) (k : Nat), k' = .int .i64 k ∧ at' = .int .i64 x ∧ 0 ≤ x ∧ x ≤ 300000000 ∧ l.length + k ≤ 4 ∧ Own wr w.heap.size v l ∧ St [] B a len cap w wr) (fun _ _ k' _ => (intOf k').toNat)
      case atStart => exact ⟨[], x, kn, rfl, rfl, x0, hx, by simp; omega, O3.out, T3.out⟩
      case round =>
        obtain ⟨l, x, k, rfl, rfl, x0, hx, hlen, ho, ht⟩ := hrel
        have T4 := Lib.hid ht
        have O4 := Lib.hid ho
        have hz4 := ht.le
        clear ho ht
        by_cases hk : 0 < k
        · go_wp2_with (at_builtin; go_must (refine app1 rfl _ _ rfl w.heap.size _ _ _ _ _ O4.out rfl rfl ⟨by omega, by omega⟩ (by omega) hz4 ?_; intro v' w5 ho hg; have O5 := Lib.hid ho; have T5 := Lib.hid (T4.out.own hg (fun k e => ⟨(O4.out.lt k e).1, fun x hx => by simp at hx⟩)); clear ho hg))
          go_wp2_with fail
          all_goals
            refine (s_Next B a len cap _ _ T5.out.src (by omega) (by omega)).mono ?_
            rintro e w6 ⟨y, rfl, y0, y1, y2, src, gr⟩
            have T6 := Lib.hid (T5.out.call src gr)
            have hy : y ≤ 300000000 := by first | (have := y1 (by omega); omega) | (have := y2 (by omega); omega)
            have O6 := Lib.hid (O5.out.kept gr (by intro k hk; cases hk; omega))
            clear gr src y1 y2
            go_wp2_with fail
            refine (s_Next B a len cap 20 _ T6.out.src (by omega) (by omega)).mono ?_
            rintro e w7 ⟨z, rfl, z0, z1, z2, src, gr⟩
            have T7 := Lib.hid (T6.out.call src gr)
            have hz := z1 (by omega)
            have O7 := Lib.hid (O6.out.kept gr (by intro k hk; cases hk; omega))
            have hz19 : 0 ≤ z.tdiv 19 ∧ z.tdiv 19 ≤ 1 := by rw [Int.tdiv_eq_ediv_of_nonneg z0]; omega
            obtain ⟨hza, hzb⟩ := hz19
            have hz19' : 0 ≤ z / 19 ∧ z / 19 ≤ 1 := by omega
            obtain ⟨hzc, hzd⟩ := hz19'
            clear gr src z1 z2
            go_wp2_with fail
            refine (s_l05ModE _ 1 _ (by omega) (by omega) (by omega) (by omega)).mono ?_
            rintro e w' ⟨r, rfl, g0, g1, rfl⟩
            go_wp2_with fail
            go_roundw
            case rel => exact ⟨l ++ [x], _, k - 1, congrArg (Value.int .i64) (by omega), rfl, g0, by omega, by simp; omega, O7.out, T7.out⟩
            case measure => simp [intOf]; omega
        · obtain rfl : k = 0 := by omega
          go_wp2_with fail
          refine (s_Next B a len cap 40 _ T4.out.src (by omega) (by omega)).mono ?_
          rintro e w5 ⟨c, rfl, c0, c1, c2, src, gr⟩
          have T5 := Lib.hid (T4.out.call src gr)
          have O5 := Lib.hid (O4.out.kept gr (by intro k hk; cases hk; omega))
          clear gr src c1 c2 hk
          by_cases k0 : c = 0
          · subst k0
            go_wp2_with fail
            refine (s_Next B a len cap 2 _ T5.out.src (by omega) (by omega)).mono ?_
            rintro e w6 ⟨y, rfl, y0, y1, y2, src, gr⟩
            have T6 := Lib.hid (T5.out.call src gr)
            have hy := y1 (by omega)
            have hz6 := T6.out.le
            clear gr src y1 y2
            obtain ⟨m, rfl⟩ := Int.eq_ofNat_of_zero_le y0
            obtain ⟨i0, hi, hz0, hz1, hz2⟩ := info_parts info_i64
            have HI := Lib.hid hi; clear hi
            have HZ0 := Lib.hid hz0; clear hz0
            have HZ1 := Lib.hid hz1; clear hz1
            have HZ2 := Lib.hid hz2; clear hz2
            go_wp2_with (refine wpList_make_full _ rfl _ _ _ rfl w.heap.size 2 i0 (.int .i64 0) 1 Try.underlying38 HI.out HZ0.out HZ1.out _ _ _ _ (4 + m) rfl rfl (by omega) (by omega) (by rw [HZ2.out]; omega) (by unfold maxLen; omega) hz6 ?_; intro w7 hown hgrow)
            have ho : Own w7 w.heap.size (.slice (some ⟨w6.heap.size, 0, none⟩) (4 + m) (4 + m)) (List.replicate (4 + m) 0) := by
              refine ⟨?_, fun x hx => by rw [List.eq_of_mem_replicate hx]; exact ⟨by omega, by omega⟩⟩
              have := toList_madeCells_one (.int .i64 0) (4 + m)
              simpa [Value.cells, this] using hown
            have T7 := T6.out.own hgrow (fun k e => by cases e)
            go_ret
            exact ⟨_, _, rfl, ho, by simp; omega, T7.src, T7.grown⟩
          have e0 : (c == 0) = false := by simpa using k0
          by_cases k1 : c = 1
          · subst k1
            go_wp2_with fail
            have hl3 := sl_new w5 [-1, 1, 0] 2 (by simp) (by intro x hx; simp at hx; unfold InR; omega)
            refine (s_Pick B a len cap ⟨w5.heap.size, 0, none⟩ 3 3 _ _ (T5.out.src.alloc _) hl3 (by have := T5.out.src.lt; show w5.heap.size ≠ B; omega) (by omega)).mono ?_
            rintro e w6 ⟨u, rfl, hu, src, gr⟩
            have T6 := Lib.hid ((T5.out.alloc _).call src gr)
            have hu2 : -300000000 ≤ u ∧ u ≤ 300000000 := by simp at hu; omega
            have O6 := Lib.hid ((O5.out.alloc _).kept gr (by intro k hk; cases hk; omega))
            have hz6 := T6.out.le
            clear gr src hu hl3
            go_wp2_with (at_builtin; go_must (refine app1 rfl _ _ rfl w.heap.size _ _ _ _ _ O6.out rfl rfl ⟨by omega, by omega⟩ (by omega) hz6 ?_; intro v' w7 ho hg; have O7 := Lib.hid ho; have T7 := Lib.hid (T6.out.own hg (fun k e => ⟨(O6.out.lt k e).1, fun x hx => by simp at hx⟩)); clear ho hg))
            go_ret
            exact ⟨_, _, rfl, O7.out, by simp; omega, T7.out.src, T7.out.grown⟩
          · have e1 : (c == 1) = false := by simpa using k1
            go_wp2_with fail
            go_ret
            exact ⟨_, _, rfl, O5.out, by omega, T5.out.src, T5.out.grown⟩
    · clear hm1
      go_wp2_with fail
      have OA : Hid (Own (w1.alloc (.cells #[] 2)) w.heap.size (.slice (some ⟨w1.heap.size, 0, none⟩) 0 0) []) := Lib.hid (own_new w1 w.heap.size T1.out.le)
      have TA := Lib.hid (T1.out.alloc (.cells #[] 2))
      refine (s_Next B a len cap _ _ TA.out.src (by omega) (by omega)).mono ?_
      rintro e w2 ⟨x, rfl, x0, x1, x2, src, gr⟩
      have T2 := Lib.hid (TA.out.call src gr)
      have hx : x ≤ 300000000 := by first | (have := x1 (by omega); omega) | (have := x2 (by omega); omega)
      have O2 := Lib.hid (OA.out.kept gr (by intro k hk; cases hk; omega))
      clear gr src x1 x2
      go_wp2_with fail
      refine (s_Next B a len cap 5 _ T2.out.src (by omega) (by omega)).mono ?_
      rintro e w3 ⟨k0, rfl, k00, k01, k02, src, gr⟩
      have T3 := Lib.hid (T2.out.call src gr)
      have hk0 := k01 (by omega)
      have O3 := Lib.hid (O2.out.kept gr (by intro k hk; cases hk; omega))
      obtain ⟨kn, rfl⟩ := Int.eq_ofNat_of_zero_le k00
      clear gr src k01 k02 k00
      go_wp2_with fail
      go_loopw [8, 9, 10] (fun v at' k' wr => ∃ (l : List Int) (x : Int) (k : Nat), k' = .int .i64 k ∧ at' = .int .i64 x ∧ 0 ≤ x ∧ x ≤ 300000000 ∧ l.length + k ≤ 4 ∧ Own wr w.heap.size v l ∧ St [] B a len cap w wr) (fun _ _ k' _ => (intOf k').toNat)
      case atStart => exact ⟨[], x, kn, rfl, rfl, x0, hx, by simp; omega, O3.out, T3.out⟩
      case round =>
        obtain ⟨l, x, k, rfl, rfl, x0, hx, hlen, ho, ht⟩ := hrel
        have T4 := Lib.hid ht
        have O4 := Lib.hid ho
        have hz4 := ht.le
        clear ho ht
        by_cases hk : 0 < k
        · go_wp2_with (at_builtin; go_must (refine app1 rfl _ _ rfl w.heap.size _ _ _ _ _ O4.out rfl rfl ⟨by omega, by omega⟩ (by omega) hz4 ?_; intro v' w5 ho hg; have O5 := Lib.hid ho; have T5 := Lib.hid (T4.out.own hg (fun k e => ⟨(O4.out.lt k e).1, fun x hx => by simp at hx⟩)); clear ho hg))
          have hq3 : 0 ≤ t.tdiv 3 ∧ t.tdiv 3 ≤ 100000000 := by rw [Int.tdiv_eq_ediv_of_nonneg (by omega)]; omega
          obtain ⟨q3a, q3b⟩ := hq3
          have hq4 : 0 ≤ t / 3 ∧ t / 3 ≤ 100000000 := by omega
          obtain ⟨q4a, q4b⟩ := hq4
          go_wp2_with fail
          all_goals
            refine (s_Next B a len cap _ _ T5.out.src (by omega) (by omega)).mono ?_
            rintro e w6 ⟨y, rfl, y0, y1, y2, src, gr⟩
            have T6 := Lib.hid (T5.out.call src gr)
            have hy : y ≤ 300000000 := by first | (have := y1 (by omega); omega) | (have := y2 (by omega); omega)
            have O6 := Lib.hid (O5.out.kept gr (by intro k hk; cases hk; omega))
            clear gr src y1 y2
            go_wp2_with fail
            refine (s_Next B a len cap 20 _ T6.out.src (by omega) (by omega)).mono ?_
            rintro e w7 ⟨z, rfl, z0, z1, z2, src, gr⟩
            have T7 := Lib.hid (T6.out.call src gr)
            have hz := z1 (by omega)
            have O7 := Lib.hid (O6.out.kept gr (by intro k hk; cases hk; omega))
            have hz19 : 0 ≤ z.tdiv 19 ∧ z.tdiv 19 ≤ 1 := by rw [Int.tdiv_eq_ediv_of_nonneg z0]; omega
            obtain ⟨hza, hzb⟩ := hz19
            have hz19' : 0 ≤ z / 19 ∧ z / 19 ≤ 1 := by omega
            obtain ⟨hzc, hzd⟩ := hz19'
            clear gr src z1 z2
            go_wp2_with fail
            refine (s_l05ModE _ t _ (by omega) (by omega) (by omega) (by omega)).mono ?_
            rintro e w' ⟨r, rfl, g0, g1, rfl⟩
            go_wp2_with fail
            go_roundw
            case rel => exact ⟨l ++ [x], _, k - 1, congrArg (Value.int .i64) (by omega), rfl, g0, by omega, by simp; omega, O7.out, T7.out⟩
            case measure => simp [intOf]; omega
        · obtain rfl : k = 0 := by omega
          go_wp2_with fail
          refine (s_Next B a len cap 40 _ T4.out.src (by omega) (by omega)).mono ?_
          rintro e w5 ⟨c, rfl, c0, c1, c2, src, gr⟩
          have T5 := Lib.hid (T4.out.call src gr)
          have O5 := Lib.hid (O4.out.kept gr (by intro k hk; cases hk; omega))
          clear gr src c1 c2 hk
          by_cases k0 : c = 0
          · subst k0
            go_wp2_with fail
            refine (s_Next B a len cap 2 _ T5.out.src (by omega) (by omega)).mono ?_
            rintro e w6 ⟨y, rfl, y0, y1, y2, src, gr⟩
            have T6 := Lib.hid (T5.out.call src gr)
            have hy := y1 (by omega)
            have hz6 := T6.out.le
            clear gr src y1 y2
            obtain ⟨m, rfl⟩ := Int.eq_ofNat_of_zero_le y0
            obtain ⟨i0, hi, hz0, hz1, hz2⟩ := info_parts info_i64
            have HI := Lib.hid hi; clear hi
            have HZ0 := Lib.hid hz0; clear hz0
            have HZ1 := Lib.hid hz1; clear hz1
            have HZ2 := Lib.hid hz2; clear hz2
            go_wp2_with (refine wpList_make_full _ rfl _ _ _ rfl w.heap.size 2 i0 (.int .i64 0) 1 Try.underlying38 HI.out HZ0.out HZ1.out _ _ _ _ (4 + m) rfl rfl (by omega) (by omega) (by rw [HZ2.out]; omega) (by unfold maxLen; omega) hz6 ?_; intro w7 hown hgrow)
            have ho : Own w7 w.heap.size (.slice (some ⟨w6.heap.size, 0, none⟩) (4 + m) (4 + m)) (List.replicate (4 + m) 0) := by
              refine ⟨?_, fun x hx => by rw [List.eq_of_mem_replicate hx]; exact ⟨by omega, by omega⟩⟩
              have := toList_madeCells_one (.int .i64 0) (4 + m)
              simpa [Value.cells, this] using hown
            have T7 := T6.out.own hgrow (fun k e => by cases e)
            go_ret
            exact ⟨_, _, rfl, ho, by simp; omega, T7.src, T7.grown⟩
          have e0 : (c == 0) = false := by simpa using k0
          by_cases k1 : c = 1
          · subst k1
            go_wp2_with fail
            have hl3 := sl_new w5 [-1, t, t - 1] 2 (by simp) (by intro x hx; simp at hx; unfold InR; omega)
            refine (s_Pick B a len cap ⟨w5.heap.size, 0, none⟩ 3 3 _ _ (T5.out.src.alloc _) hl3 (by have := T5.out.src.lt; show w5.heap.size ≠ B; omega) (by omega)).mono ?_
            rintro e w6 ⟨u, rfl, hu, src, gr⟩
            have T6 := Lib.hid ((T5.out.alloc _).call src gr)
            have hu2 : -300000000 ≤ u ∧ u ≤ 300000000 := by simp at hu; omega
            have O6 := Lib.hid ((O5.out.alloc _).kept gr (by intro k hk; cases hk; omega))
            have hz6 := T6.out.le
            clear gr src hu hl3
            go_wp2_with (at_builtin; go_must (refine app1 rfl _ _ rfl w.heap.size _ _ _ _ _ O6.out rfl rfl ⟨by omega, by omega⟩ (by omega) hz6 ?_; intro v' w7 ho hg; have O7 := Lib.hid ho; have T7 := Lib.hid (T6.out.own hg (fun k e => ⟨(O6.out.lt k e).1, fun x hx => by simp at hx⟩)); clear ho hg))
            go_ret
            exact ⟨_, _, rfl, O7.out, by simp; omega, T7.out.src, T7.out.grown⟩
          · have e1 : (c == 1) = false := by simpa using k1
            go_wp2_with fail
            go_ret
            exact ⟨_, _, rfl, O5.out, by omega, T5.out.src, T5.out.grown⟩
  by_cases hT : totL L ≤ 1
  · exact key 1 (.inl ⟨hT, rfl⟩)
  · exact key (totL L) (.inr ⟨by omega, rfl⟩)
end Go.Proofs.Ytehinlecppbjeaa
