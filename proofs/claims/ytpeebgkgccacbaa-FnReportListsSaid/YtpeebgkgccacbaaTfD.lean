/- Drawn traffic. -/
import Derived.Test.YtpeebgkgccacbaaTfR
import Derived.Test.YtpeebgkgccacbaaStO
import Derived.Test.YtpeebgkgccacbaaSt
namespace Go.Proofs.Ytpeebgkgccacbaa
open Go.RowKit
set_option maxHeartbeats 4000000
set_option maxRecDepth 100000
set_option linter.unusedVariables false
set_option linter.unusedSimpArgs false
/-- what hands back a drawn traffic leaves -/
def DrawnTf (w : World) (B : Nat) (a : Option Addr) (len cap : Nat) (e : Ending) (w' : World) : Prop :=
  ∃ (Bt : Int) (v : Value) (l : List Int), e = .returned (.agg #[.int .i64 Bt, v]) ∧ InR Bt ∧ Own w' w.heap.size v l ∧ l.length ≤ 5 ∧ Src w' B a len cap ∧ w.grownBy w' (some B)
theorem st_res {w W : World} {B R : Nat} {a : Option Addr} {len cap : Nat} {u0 u1 : Value} (h : St [] B a len cap w W) (hR : w.heap.size ≤ R) : St [] B a len cap w ((W.setCell ⟨R, 0, none⟩ u0).setCell ⟨R, 1, none⟩ u1) :=
  (h.set R 0 u0 hR (fun x hx => by simp at hx)).set R 1 u1 hR (fun x hx => by simp at hx)
theorem own_litT (w : World) (base : Nat) (l : List Int) (h : base ≤ w.heap.size) (hl : l.length ≤ 1000) (hr : ∀ x ∈ l, InR x) : Sl (w.alloc (.cells (l.map (Value.int .i64)).toArray 2)) (some ⟨w.heap.size, 0, none⟩) l.length l := by
  obtain ⟨a, c, e, s, _⟩ := (own_lit w base l h hl hr).sl
  cases e; exact s
theorem madeT_own {w7 : World} {base g n : Nat} (hb : base ≤ g) (h : w7.ownsRow base 2 1 (.slice (some ⟨g, 0, none⟩) n n) n (madeCells (Value.int .i64 0).cells (n * 1)).toList) : Own w7 base (.slice (some ⟨g, 0, none⟩) n n) (List.replicate n 0) := by
  refine ⟨?_, fun x hx => by rw [List.eq_of_mem_replicate hx]; exact ⟨by omega, by omega⟩⟩
  have := toList_madeCells_one (.int .i64 0) n
  simpa [Value.cells, this] using h
set_option maxRecDepth 100000 in
theorem s_l10Draw (B : Nat) (a : Option Addr) (len cap : Nat) (w : World) (hs : Src w B a len cap) :
    Calls Try.prog 26 #[.pointer (some ⟨B, 0, none⟩)] w (DrawnTf w B a len cap) := by
  have HS := Lib.hid hs
  have hBlt := hs.lt
  clear hs
  go_enter Try.func26, Try.ntmps26
  go_wp2_with fail
  have T0 := Lib.hid ((St.begin HS.out).box2 (.int .i64 0) (.slice none 0 0) 32)
  refine (s_Next B a len cap 5 _ T0.out.src (by omega) (by omega)).mono ?_
  rintro e w1 ⟨x, rfl, x0, x1, x2, src, gr⟩
  have hx := x1 (by omega)
  have T1 := Lib.hid (T0.out.call src gr)
  clear gr src x1 x2 T0
  go_wp2_with fail
  have hz1 : w.heap.size + 1 ≤ w1.heap.size := (T1.out.szl w.heap.size 0 (.int .i64 0) (by simp)).2
  have OA : Hid (Own (w1.alloc (.cells #[] 2)) (w.heap.size + 1) (.slice (some ⟨w1.heap.size, 0, none⟩) 0 0) []) := Lib.hid (own_new w1 _ hz1)
  have TA := Lib.hid (T1.out.alloc (.cells #[] 2))
  refine (s_Next B a len cap (2 + x) _ TA.out.src (by omega) (by omega)).mono ?_
  rintro e w2 ⟨y, rfl, y0, y1, y2, src, gr⟩
  have hy := y1 (by omega)
  have T2 := Lib.hid (TA.out.call src gr)
  have O2 := Lib.hid (OA.out.kept gr (by intro k hk; cases hk; omega))
  clear gr src y1 y2 TA OA T1 hz1
  have key : ∀ z : Int, 0 ≤ z → z < 4 → True := fun _ _ _ => trivial
  go_wp2_with fail
  all_goals
    refine (s_Next B a len cap _ _ T2.out.src (by omega) (by omega)).mono ?_
    rintro e w3 ⟨z, rfl, z0, z1, z2, src, gr⟩
    have hz := z1 (by omega)
    have T3 := Lib.hid (T2.out.call src gr)
    have O3 := Lib.hid (O2.out.kept gr (by intro k hk; cases hk; omega))
    obtain ⟨zn, rfl⟩ := Int.eq_ofNat_of_zero_le z0
    have hzn : zn < 4 := by omega
    clear gr src z1 z2 T2 O2 hz z0
    go_wp2_with fail
    go_loopw [4, 5, 6] (fun v at' k' wr => ∃ (l : List Int) (p : Int) (k : Nat), k' = .int .i64 k ∧ at' = .int .i64 p ∧ 0 ≤ p ∧ p ≤ 7 + 3 * l.length ∧ l.length + k ≤ 4 ∧ 1 ≤ l.length + k ∧ Own wr (w.heap.size + 1) v l ∧ St [(w.heap.size, 0, .int .i64 0), (w.heap.size, 1, .slice none 0 0)] B a len cap w wr) (fun _ _ k' _ => (intOf k').toNat)
    case atStart => exact ⟨[], y, 1 + zn, by go_num, rfl, y0, by simp; omega, by simp; omega, by omega, O3.out, T3.out⟩
    case round =>
      clear O3 T3
      obtain ⟨l, p, k, rfl, rfl, p0, p1, hlen, hlen1, ho, ht⟩ := hrel
      have T4 := Lib.hid ht
      have O4 := Lib.hid ho
      have hz4 : w.heap.size + 1 ≤ wr.heap.size := (ht.szl w.heap.size 0 (.int .i64 0) (by simp)).2
      clear ho ht
      by_cases hk : 0 < k
      · go_wp2_with fail
        have hl3 := sl_new wr [0, 1, 1, 2] 2 (by simp) (by intro x hx; simp at hx; unfold InR; omega)
        refine (s_Pick B a len cap ⟨wr.heap.size, 0, none⟩ 4 4 _ _ (T4.out.src.alloc _) hl3 (by have := T4.out.src.lt; show wr.heap.size ≠ B; omega) (by omega)).mono ?_
        rintro e w5 ⟨ph, rfl, hph, src, gr⟩
        have hph2 : 0 ≤ ph ∧ ph ≤ 2 := by simp at hph; omega
        obtain ⟨hpa, hpb⟩ := hph2
        have T5 := Lib.hid ((T4.out.alloc _).call src gr)
        have O5 := Lib.hid ((O4.out.alloc _).kept gr (by intro k hk; cases hk; omega))
        have hz5 : w.heap.size + 1 ≤ w5.heap.size := (T5.out.szl w.heap.size 0 (.int .i64 0) (by simp)).2
        have m1 : 0 ≤ p % (2 + x) := Int.emod_nonneg _ (by omega)
        have m2 : p % (2 + x) < 2 + x := Int.emod_lt_of_pos _ (by omega)
        clear src gr hl3 hph T4 O4
        go_wp2_with (at_builtin; go_must (refine app1 rfl _ _ rfl (w.heap.size + 1) _ _ _ _ _ O5.out rfl rfl ⟨by omega, by omega⟩ (by omega) hz5 ?_; intro v' w6 ho hg; have O6 := Lib.hid ho; have T6 := Lib.hid (T5.out.ownO hg (fun k e => ⟨by have := (O5.out.lt k e).1; omega, fun x hx => by have := (O5.out.lt k e).1; simp at hx; rcases hx with rfl | rfl <;> (show w.heap.size ≠ k; omega)⟩)); clear ho hg))
        refine (s_Next B a len cap 3 _ T6.out.src (by omega) (by omega)).mono ?_
        rintro e w7 ⟨r, rfl, r0, r1, r2, src, gr⟩
        have hr := r1 (by omega)
        have T7 := Lib.hid (T6.out.call src gr)
        have O7 := Lib.hid (O6.out.kept gr (by intro k hk; cases hk; omega))
        have q1 : 0 ≤ ph.tdiv 2 ∧ ph.tdiv 2 ≤ 1 := by rw [Int.tdiv_eq_ediv_of_nonneg hpa]; omega
        have q2 : 0 ≤ r.tdiv 2 ∧ r.tdiv 2 ≤ 1 := by rw [Int.tdiv_eq_ediv_of_nonneg r0]; omega
        have q3 : 0 ≤ ph / 2 ∧ ph / 2 ≤ 1 := by omega
        have q4 : 0 ≤ r / 2 ∧ r / 2 ≤ 1 := by omega
        obtain ⟨q1a, q1b⟩ := q1; obtain ⟨q2a, q2b⟩ := q2; obtain ⟨q3a, q3b⟩ := q3; obtain ⟨q4a, q4b⟩ := q4
        clear src gr r1 r2 T5 O5 T6 O6
        go_wp2_with fail
        go_roundw
        case rel => exact ⟨l ++ [3 * (p % (2 + x)) + ph], _, k - 1, congrArg (Value.int .i64) (by omega), rfl, by omega, by simp; omega, by simp; omega, by simp; omega, O7.out, T7.out⟩
        case measure => simp [intOf]; omega
      · obtain rfl : k = 0 := by omega
        go_wp2_with fail
        refine (s_Next B a len cap 40 _ T4.out.src (by omega) (by omega)).mono ?_
        rintro e w5 ⟨c, rfl, c0, c1, c2, src, gr⟩
        have T5 := Lib.hid (T4.out.call src gr)
        have O5 := Lib.hid (O4.out.kept gr (by intro k hk; cases hk; omega))
        have hz5 : w.heap.size + 1 ≤ w5.heap.size := (T5.out.szl w.heap.size 0 (.int .i64 0) (by simp)).2
        clear gr src c1 c2 hk T4 O4
        obtain ⟨a2, cc, e2, _, _⟩ := O5.out.sl
        subst e2
        by_cases k0 : c = 0
        · subst k0
          go_wp2_with fail
          have hl3 := sl_new w5 [1, 8, 9] 2 (by simp) (by intro x hx; simp at hx; unfold InR; omega)
          refine (s_Pick B a len cap ⟨w5.heap.size, 0, none⟩ 3 3 _ _ (T5.out.src.alloc _) hl3 (by have := T5.out.src.lt; show w5.heap.size ≠ B; omega) (by omega)).mono ?_
          rintro e w6 ⟨u, rfl, hu, src, gr⟩
          have T6 := Lib.hid ((T5.out.alloc _).call src gr)
          have hu2 : 1 ≤ u ∧ u ≤ 9 := by simp at hu; omega
          obtain ⟨hua, hub⟩ := hu2
          have O6 := Lib.hid ((O5.out.alloc _).kept gr (by intro k hk; cases hk; omega))
          obtain ⟨d0, d1, d2, d3⟩ := St.s2 T6.out
          clear gr src hu hl3 T5 O5
          go_wp2_with fail
          exact bodyPost_ret (v := .agg #[.int .i64 u, .slice a2 l.length cc]) (by simp [results, Try.results26, go_sem, *]) rfl ⟨_, _, l, rfl, ⟨by omega, by omega⟩, tf_mono (own_res O6.out (by omega)) (by omega), by omega, (st_res T6.out.bare (Nat.le_refl _)).src, (st_res T6.out.bare (Nat.le_refl _)).grown⟩
        · have e0 : (c == 0) = false := by simpa using k0
          by_cases k1 : c = 1
          · subst k1
            go_wp2_with fail
            have hl3 := sl_new w5 [-1, 3 * (2 + x) - 1, 3 * (2 + x)] 2 (by simp) (by intro y hy; simp at hy; unfold InR; omega)
            refine (s_Pick B a len cap ⟨w5.heap.size, 0, none⟩ 3 3 _ _ (T5.out.src.alloc _) hl3 (by have := T5.out.src.lt; show w5.heap.size ≠ B; omega) (by omega)).mono ?_
            rintro e w6 ⟨u, rfl, hu, src, gr⟩
            have T6 := Lib.hid ((T5.out.alloc _).call src gr)
            have hu2 : -1 ≤ u ∧ u ≤ 100 := by simp at hu; omega
            obtain ⟨hua, hub⟩ := hu2
            have O6 := Lib.hid ((O5.out.alloc _).kept gr (by intro k hk; cases hk; omega))
            clear gr src hu hl3 T5 O5
            obtain ⟨g, cg, e2⟩ := own_some O6.out rfl (by omega)
            cases e2
            have hgb := (O6.out.lt g rfl).1
            obtain ⟨y1, y2⟩ := own_at O6.out rfl 0 (by omega)
            obtain ⟨o1, o2⟩ := own_put O6.out rfl 0 u ⟨by omega, by omega⟩
            have T8 := Lib.hid (T6.out.ownO o2 (fun k e => ⟨by cases e; omega, fun x hx => by cases e; simp at hx; rcases hx with rfl | rfl <;> (show w.heap.size ≠ g; omega)⟩))
            have O8 : Hid (Own (w6.setCell ⟨g, 0, none⟩ (.int .i64 u)) (w.heap.size + 1) (.slice (some ⟨g, 0, none⟩) l.length cc) (l.set 0 u)) := Lib.hid o1
            obtain ⟨d0, d1, d2, d3⟩ := St.s2 T6.out
            have hne1 : ¬ g = w.heap.size := by omega
            have hne2 : ¬ w.heap.size = g := by omega
            have hl0 : (0 : Int) < (l.length : Int) := by omega
            clear o1 o2 T6 O6
            go_wp2_with fail
            exact bodyPost_ret (v := .agg #[.int .i64 (2 + x), .slice (some ⟨g, 0, none⟩) l.length cc]) (by simp [results, Try.results26, go_sem, *]) rfl ⟨_, _, (l.set 0 u), rfl, ⟨by omega, by omega⟩, tf_mono (own_res O8.out (by omega)) (by omega), by simp; omega, (st_res T8.out.bare (Nat.le_refl _)).src, (st_res T8.out.bare (Nat.le_refl _)).grown⟩
          · have e1 : (c == 1) = false := by simpa using k1
            by_cases k2 : c = 2
            · subst k2
              go_wp2_with fail
              refine (s_Next B a len cap 2 _ T5.out.src (by omega) (by omega)).mono ?_
              rintro e w6 ⟨y', rfl, y0', y1', y2', src, gr⟩
              have T6 := Lib.hid (T5.out.call src gr)
              have hy' := y1' (by omega)
              have hz6 : w.heap.size + 1 ≤ w6.heap.size := (T6.out.szl w.heap.size 0 (.int .i64 0) (by simp)).2
              clear gr src y1' y2' T5 O5
              obtain ⟨m, rfl⟩ := Int.eq_ofNat_of_zero_le y0'
              obtain ⟨i0, hi, hz0, hz1, hz2⟩ := info_parts info_i64
              have HI := Lib.hid hi; clear hi
              have HZ0 := Lib.hid hz0; clear hz0
              have HZ1 := Lib.hid hz1; clear hz1
              have HZ2 := Lib.hid hz2; clear hz2
              go_wp2_with (refine wpList_make_full _ rfl _ _ _ rfl (w.heap.size + 1) 2 i0 (.int .i64 0) 1 Try.underlying24 HI.out HZ0.out HZ1.out _ _ _ _ (4 + m) rfl rfl (by omega) (by omega) (by rw [HZ2.out]; omega) (by unfold maxLen; omega) hz6 ?_; intro w7 hown hgrow; have O7 := Lib.hid (madeT_own hz6 hown); have T7 := Lib.hid (T6.out.ownO hgrow (fun k e => by cases e)); clear hown hgrow; obtain ⟨d0, d1, d2, d3⟩ := St.s2 T7.out)
              exact bodyPost_ret (v := .agg #[.int .i64 (2 + x), .slice (some ⟨w6.heap.size, 0, none⟩) (4 + m) (4 + m)]) (by simp [results, Try.results26, go_sem, *]) rfl ⟨_, _, (List.replicate (4 + m) 0), rfl, ⟨by omega, by omega⟩, tf_mono (own_res O7.out (by omega)) (by omega), by simp; omega, (st_res T7.out.bare (Nat.le_refl _)).src, (st_res T7.out.bare (Nat.le_refl _)).grown⟩
            · have e2 : (c == 2) = false := by simpa using k2
              obtain ⟨d0, d1, d2, d3⟩ := St.s2 T5.out
              by_cases k3 : c = 3
              · subst k3
                go_wp2_with fail
                exact bodyPost_ret (v := .agg #[.int .i64 (2 + x), .slice none 0 0]) (by simp [results, Try.results26, go_sem, *]) rfl ⟨_, _, [], rfl, ⟨by omega, by omega⟩, tf_mono (own_res (tf_none _ (w.heap.size + 1)) (by omega)) (by omega), by simp, (st_res T5.out.bare (Nat.le_refl _)).src, (st_res T5.out.bare (Nat.le_refl _)).grown⟩
              · have e3 : (c == 3) = false := by simpa using k3
                go_wp2_with fail
                exact bodyPost_ret (v := .agg #[.int .i64 (2 + x), .slice a2 l.length cc]) (by simp [results, Try.results26, go_sem, *]) rfl ⟨_, _, l, rfl, ⟨by omega, by omega⟩, tf_mono (own_res O5.out (by omega)) (by omega), by omega, (st_res T5.out.bare (Nat.le_refl _)).src, (st_res T5.out.bare (Nat.le_refl _)).grown⟩
end Go.Proofs.Ytpeebgkgccacbaa
