/- The draw of a report (gen/gen_ila.py). -/
import Derived.Test.YtpeebgkgccacbaaTfH
namespace Go.Proofs.Ytpeebgkgccacbaa
open Go.RowKit
set_option maxHeartbeats 4000000
set_option maxRecDepth 100000
set_option linter.unusedVariables false
set_option linter.unusedSimpArgs false
/-- what hands back a drawn report leaves -/
def DrawnRp (w : World) (B : Nat) (a : Option Addr) (len cap : Nat) (e : Ending) (w' : World) : Prop :=
  ∃ (v1 v2 : Value) (l1 l2 : List Int), e = .returned (.agg #[v1, v2]) ∧ Own w' w.heap.size v1 l1 ∧ Own w' w.heap.size v2 l2 ∧ Src w' B a len cap ∧ w.grownBy w' (some B)
/-- the rows of two lists of the call's own are apart -/
def Apart (v1 v2 : Value) : Prop := ∀ q, v1.ownBlock = some q → v2.ownBlock ≠ some q
theorem apart_l {W : World} {b : Nat} {v1 v2 v' : Value} {l2 : List Int} (h : Apart v1 v2) (O2 : Own W b v2 l2) (hat : v'.ownBlock = v1.ownBlock ∨ v'.ownBlock = some (W.heap.size + 1)) : Apart v' v2 := by
  intro q hq e
  have h2 := (O2.lt q e).2
  rcases hat with k | k
  · exact h q (k.symm.trans hq) e
  · have := Option.some.inj (k.symm.trans hq); omega
theorem Apart.symm {v1 v2 : Value} (h : Apart v1 v2) : Apart v2 v1 := fun q hq e => h q e hq
theorem apart_kept {W W' : World} {b : Nat} {v1 v2 : Value} {l2 : List Int} (h : Apart v1 v2) (O2 : Own W b v2 l2) (hg : W.grownBy W' v1.ownBlock) : Own W' b v2 l2 :=
  own_keptM O2 hg (fun k hk e => h k e hk)
theorem st_own4 {s : Nat} {u0 u1 u2 u3 : Value} {B : Nat} {a : Option Addr} {len cap : Nat} {w0 W W1 : World} {v : Value} {l : List Int} (h : St [(s + 1, 0, u0), (s + 1, 1, u1), (s, 0, u2), (s, 1, u3)] B a len cap w0 W) (O : Own W (s + 1 + 1) v l) (hs : w0.heap.size ≤ s) (hg : W.grownBy W1 v.ownBlock) : St [(s + 1, 0, u0), (s + 1, 1, u1), (s, 0, u2), (s, 1, u3)] B a len cap w0 W1 :=
  h.ownO hg (fun k e => ⟨by have := (O.lt k e).1; omega, fun x hx => by have := (O.lt k e).1; simp at hx; rcases hx with rfl | rfl | rfl | rfl <;> (first | (show s ≠ k; omega) | (show s + 1 ≠ k; omega))⟩)
theorem st_res2 {w W : World} {B R R' : Nat} {a : Option Addr} {len cap : Nat} {u0 u1 u2 u3 : Value} (h : St [] B a len cap w W) (hR : w.heap.size ≤ R) (hR' : w.heap.size ≤ R') : St [] B a len cap w ((((W.setCell ⟨R, 0, none⟩ u0).setCell ⟨R, 1, none⟩ u1).setCell ⟨R', 0, none⟩ u2).setCell ⟨R', 1, none⟩ u3) := st_res (st_res h hR) hR'
set_option maxRecDepth 100000 in
theorem s_l11DrawReport (B : Nat) (a : Option Addr) (len cap : Nat) (Bt : Int) (hBt : InR Bt) (w : World) (hs : Src w B a len cap) :
    Calls Try.prog 21 #[.pointer (some ⟨B, 0, none⟩), .int .i64 Bt] w (DrawnRp w B a len cap) := by
  have HS := Lib.hid hs
  have hBlt := hs.lt
  obtain ⟨hBt1, hBt2⟩ := hBt
  clear hs

  go_enter Try.func21, Try.ntmps21
  go_wp2_with fail
  have T0 := Lib.hid (((((St.begin HS.out).box2 (.slice none 0 0) (.slice none 0 0) 26).box2 (.slice none 0 0) (.slice none 0 0) 26).alloc (.cells #[] 2)).alloc (.cells #[] 2))
  try simp only [World.size_alloc] at T0
  have OA : Hid (Own (((w.alloc (.cells #[.slice none 0 0, .slice none 0 0] 26)).alloc (.cells #[.slice none 0 0, .slice none 0 0] 26)).alloc (.cells #[] 2)) (w.heap.size + 1 + 1) (.slice (some ⟨w.heap.size + 1 + 1, 0, none⟩) 0 0) []) := Lib.hid (by have := own_new ((w.alloc (.cells #[.slice none 0 0, .slice none 0 0] 26)).alloc (.cells #[.slice none 0 0, .slice none 0 0] 26)) (w.heap.size + 1 + 1) (by simp); simpa using this)
  have OB : Hid (Own ((((w.alloc (.cells #[.slice none 0 0, .slice none 0 0] 26)).alloc (.cells #[.slice none 0 0, .slice none 0 0] 26)).alloc (.cells #[] 2)).alloc (.cells #[] 2)) (w.heap.size + 1 + 1) (.slice (some ⟨w.heap.size + 1 + 1 + 1, 0, none⟩) 0 0) []) := Lib.hid (by have := own_new (((w.alloc (.cells #[.slice none 0 0, .slice none 0 0] 26)).alloc (.cells #[.slice none 0 0, .slice none 0 0] 26)).alloc (.cells #[] 2)) (w.heap.size + 1 + 1) (by simp); simpa using this)
  go_loopw [6, 7, 8] (fun v1 v2 i wr => ∃ (l1 l2 : List Int) (k : Nat), i = .int .i64 k ∧ k ≤ 9 ∧ l1.length = k ∧ l2.length = k ∧ Own wr (w.heap.size + 1 + 1) v1 l1 ∧ Own wr (w.heap.size + 1 + 1) v2 l2 ∧ Apart v1 v2 ∧ St [(w.heap.size + 1, 0, .slice none 0 0), (w.heap.size + 1, 1, .slice none 0 0), (w.heap.size, 0, .slice none 0 0), (w.heap.size, 1, .slice none 0 0)] B a len cap w wr) (fun _ _ i _ => 9 - (intOf i).toNat)
  case atStart => exact ⟨[], [], 0, rfl, by omega, rfl, rfl, OA.out.alloc _, OB.out, (fun q h1 h2 => by have h1 := Option.some.inj h1; have h2 := Option.some.inj h2; simp only [] at h1 h2; omega), T0.out⟩
  case round =>
    clear T0 OA OB
    obtain ⟨l1, l2, k, rfl, hk, n1, n2, h1, h2, hap, ht⟩ := hrel
    have O1_1 := Lib.hid h1; have O2_1 := Lib.hid h2; have AP := Lib.hid hap; have T1 := Lib.hid ht
    have hz1 : w.heap.size + 1 + 1 ≤ wr.heap.size := (ht.szl (w.heap.size + 1) 0 (.slice none 0 0) (by simp)).2
    clear h1 h2 hap ht
    by_cases hlt : k < 9 ∧ (k : Int) < Bt
    · obtain ⟨hk9, hkB⟩ := hlt
      go_wp2_with fail
      all_goals
        refine (s_Next B a len cap 2 _ T1.out.src (by omega) (by omega)).mono ?_
        rintro e w2 ⟨x, rfl, x0, x1, x2, src, gr⟩
        have hx := x1 (by omega)
        have T2 := Lib.hid (T1.out.call src gr)
        have O1_2 := Lib.hid (O1_1.out.kept gr (by intro k hk; cases hk; omega))
        have O2_2 := Lib.hid (O2_1.out.kept gr (by intro k hk; cases hk; omega))
        have hz2 : w.heap.size + 1 + 1 ≤ w2.heap.size := (T2.out.szl (w.heap.size + 1) 0 (.slice none 0 0) (by simp)).2
        clear gr src x1 x2 T1 O1_1 O2_1
        clear hz1
        go_wp2_with (at_builtin; go_must (refine app1At rfl _ _ rfl (w.heap.size + 1 + 1) _ _ _ _ _ O1_2.out rfl _ rfl (by first | rfl | simp) ⟨by omega, by omega⟩ (by omega) (by omega) ?_; intro v3 w3 ho hg hat; have O1_3 := Lib.hid ho; have T3 := Lib.hid (st_own4 T2.out O1_2.out (Nat.le_refl _) hg); have O2_3 := Lib.hid (apart_kept (AP.out) O2_2.out hg); have AP3 := Lib.hid (apart_l (AP.out) O2_2.out hat); have hz3 := Nat.le_trans hz2 hg.size; clear ho hg hat))
        clear T2 O1_2 O2_2 AP hz2
        refine (s_Next B a len cap 2 _ T3.out.src (by omega) (by omega)).mono ?_
        rintro e w4 ⟨y, rfl, y0, y1, y2, src, gr⟩
        have hy := y1 (by omega)
        have T4 := Lib.hid (T3.out.call src gr)
        have O1_4 := Lib.hid (O1_3.out.kept gr (by intro k hk; cases hk; omega))
        have O2_4 := Lib.hid (O2_3.out.kept gr (by intro k hk; cases hk; omega))
        have hz4 : w.heap.size + 1 + 1 ≤ w4.heap.size := (T4.out.szl (w.heap.size + 1) 0 (.slice none 0 0) (by simp)).2
        clear gr src y1 y2 T3 O1_3 O2_3
        clear hz3
        go_wp2_with (at_builtin; go_must (refine app1At rfl _ _ rfl (w.heap.size + 1 + 1) _ _ _ _ _ O2_4.out rfl _ rfl (by first | rfl | simp) ⟨by omega, by omega⟩ (by omega) (by omega) ?_; intro v5 w5 ho hg hat; have O2_5 := Lib.hid ho; have T5 := Lib.hid (st_own4 T4.out O2_4.out (Nat.le_refl _) hg); have O1_5 := Lib.hid (apart_kept (AP3.out.symm) O1_4.out hg); have AP5 := Lib.hid (apart_l (AP3.out.symm) O1_4.out hat |>.symm); have hz5 := Nat.le_trans hz4 hg.size; clear ho hg hat))
        clear T4 O1_4 O2_4 AP3 hz4
        go_roundw
        case rel => exact ⟨l1 ++ [x], l2 ++ [y], k + 1, by go_num, by omega, by simp; omega, by simp; omega, O1_5.out, O2_5.out, AP5.out, T5.out⟩
        case measure => simp [intOf]; omega
    · go_wp2_with fail
      all_goals
        refine (s_Next B a len cap 30 _ T1.out.src (by omega) (by omega)).mono ?_
        rintro e w2 ⟨c, rfl, c0, c1, c2, src, gr⟩
        have hc := c1 (by omega)
        have T2 := Lib.hid (T1.out.call src gr)
        have O1_2 := Lib.hid (O1_1.out.kept gr (by intro k hk; cases hk; omega))
        have O2_2 := Lib.hid (O2_1.out.kept gr (by intro k hk; cases hk; omega))
        have hz2 : w.heap.size + 1 + 1 ≤ w2.heap.size := (T2.out.szl (w.heap.size + 1) 0 (.slice none 0 0) (by simp)).2
        clear gr src c1 c2 T1 O1_1 O2_1
        obtain ⟨a1, c1, e1, _, _⟩ := O1_2.out.sl
        obtain ⟨a2, c2, e2, _, _⟩ := O2_2.out.sl
        obtain ⟨m1, hm1⟩ : ∃ m, l1.length = m := ⟨_, rfl⟩
        obtain ⟨m2, hm2⟩ : ∃ m, l2.length = m := ⟨_, rfl⟩
        rw [hm1] at e1
        rw [hm2] at e2
        subst e1; subst e2
        have h1k : l1.length ≤ 9 := by omega
        have hm2k : m2 ≤ 9 := by omega
        have HM2 := Lib.hid hm2
        clear n1 n2 hm1 hm2
        by_cases k0 : c = 0
        · subst k0
          go_wp2_with (at_builtin; go_must (refine app1At rfl _ _ rfl (w.heap.size + 1 + 1) _ _ _ _ _ O1_2.out rfl _ rfl (by first | rfl | simp) ⟨by omega, by omega⟩ (by omega) (by omega) ?_; intro v3 w3 ho hg hat; have O1_3 := Lib.hid ho; have T3 := Lib.hid (st_own4 T2.out O1_2.out (Nat.le_refl _) hg); have O2_3 := Lib.hid (apart_kept (AP.out) O2_2.out hg); have AP3 := Lib.hid (apart_l (AP.out) O2_2.out hat); have hz3 := Nat.le_trans hz2 hg.size; obtain ⟨a3, c3, e3, _, _⟩ := ho.sl; generalize (l1 ++ [0]).length = m3 at e3; clear ho hg hat; subst e3; obtain ⟨d0, d1, d2, d3, d4, d5, d6, d7⟩ := St.s4 T3.out))
          exact bodyPost_ret (v := .agg #[.slice a3 m3 c3, .slice a2 m2 c2]) (by simp [results, Try.results21, go_sem, *]) rfl ⟨_, _, _, _, rfl, tf_mono (own_res (own_res O1_3.out (by omega)) (by omega)) (by omega), tf_mono (own_res (own_res O2_3.out (by omega)) (by omega)) (by omega), (st_res2 T3.out.bare (by omega) (Nat.le_refl _)).src, (st_res2 T3.out.bare (by omega) (Nat.le_refl _)).grown⟩
        · have e0 : (c == 0) = false := by simpa using k0
          by_cases k1 : c = 1
          · subst k1
            by_cases hm : 0 < m2
            · obtain ⟨g, cg, eg⟩ := own_some O2_2.out HM2.out (by omega)
              cases eg
              have hl0 : (0 : Int) < (m2 : Int) := by omega
              go_wp2_with fail
              have hl3 := sl_new w2 [-1, 2] 2 (by simp) (by intro x hx; simp at hx; unfold InR; omega)
              refine (s_Pick B a len cap ⟨w2.heap.size, 0, none⟩ 2 2 _ _ (T2.out.src.alloc _) hl3 (by have := T2.out.src.lt; show w2.heap.size ≠ B; omega) (by omega)).mono ?_
              rintro e w3 ⟨u, rfl, hu, src, gr⟩
              have T3 := Lib.hid ((T2.out.alloc _).call src gr)
              have hu2 : -1 ≤ u ∧ u ≤ 2 := by simp at hu; omega
              obtain ⟨hua, hub⟩ := hu2
              have O1_3 := Lib.hid ((O1_2.out.alloc _).kept gr (by intro k hk; cases hk; omega))
              have O2_3 := Lib.hid ((O2_2.out.alloc _).kept gr (by intro k hk; cases hk; omega))
              clear gr src hu hl3 T2 O1_2 O2_2
              have hgb := (O2_3.out.lt g rfl).1
              obtain ⟨y1, y2⟩ := own_at O2_3.out HM2.out 0 (by omega)
              obtain ⟨o1, o2⟩ := own_put O2_3.out HM2.out 0 u ⟨by omega, by omega⟩
              have T4 := Lib.hid (st_own4 T3.out O2_3.out (Nat.le_refl _) o2)
              have O2_4 := Lib.hid o1
              have O1_4 := Lib.hid (apart_kept AP.out.symm O1_3.out o2)
              have hne1 : ¬ g = w.heap.size := by omega
              have hne2 : ¬ w.heap.size = g := by omega
              have hne3 : ¬ g = w.heap.size + 1 := by omega
              have hne4 : ¬ w.heap.size + 1 = g := by omega
              clear o1 o2
              obtain ⟨d0, d1, d2, d3, d4, d5, d6, d7⟩ := St.s4 T3.out
              go_wp2_with fail
              exact bodyPost_ret (v := .agg #[.slice a1 m1 c1, .slice (some ⟨g, 0, none⟩) m2 c2]) (by simp [results, Try.results21, go_sem, *]) rfl ⟨_, _, _, _, rfl, tf_mono (own_res (own_res O1_4.out (by omega)) (by omega)) (by omega), tf_mono (own_res (own_res O2_4.out (by omega)) (by omega)) (by omega), (st_res2 T4.out.bare (by omega) (Nat.le_refl _)).src, (st_res2 T4.out.bare (by omega) (Nat.le_refl _)).grown⟩
            · have hl0 : ¬ (0 : Int) < (m2 : Int) := by omega
              obtain ⟨d0, d1, d2, d3, d4, d5, d6, d7⟩ := St.s4 T2.out
              go_wp2_with fail
              exact bodyPost_ret (v := .agg #[.slice a1 m1 c1, .slice a2 m2 c2]) (by simp [results, Try.results21, go_sem, *]) rfl ⟨_, _, _, _, rfl, tf_mono (own_res (own_res O1_2.out (by omega)) (by omega)) (by omega), tf_mono (own_res (own_res O2_2.out (by omega)) (by omega)) (by omega), (st_res2 T2.out.bare (by omega) (Nat.le_refl _)).src, (st_res2 T2.out.bare (by omega) (Nat.le_refl _)).grown⟩
          · have e1 : (c == 1) = false := by simpa using k1
            obtain ⟨d0, d1, d2, d3, d4, d5, d6, d7⟩ := St.s4 T2.out
            go_wp2_with fail
            exact bodyPost_ret (v := .agg #[.slice a1 m1 c1, .slice a2 m2 c2]) (by simp [results, Try.results21, go_sem, *]) rfl ⟨_, _, _, _, rfl, tf_mono (own_res (own_res O1_2.out (by omega)) (by omega)) (by omega), tf_mono (own_res (own_res O2_2.out (by omega)) (by omega)) (by omega), (st_res2 T2.out.bare (by omega) (Nat.le_refl _)).src, (st_res2 T2.out.bare (by omega) (Nat.le_refl _)).grown⟩
end Go.Proofs.Ytpeebgkgccacbaa
