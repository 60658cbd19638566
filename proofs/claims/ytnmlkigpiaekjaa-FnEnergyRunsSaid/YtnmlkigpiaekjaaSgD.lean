/- Drawn segments: whatever is drawn, its fields are small, and nothing that was there is touched but the source. -/
import Derived.Test.YtnmlkigpiaekjaaSgM
import Derived.Test.YtnmlkigpiaekjaaSt
import Derived.RegionTactic
import Derived.ChangeAlike
import Derived.Laws.ResultCell
import Derived.IntWalk
import Derived.Test.YtnmlkigpiaekjaaMath
namespace Go.Proofs.Ytnmlkigpiaekjaa
open Go.RowKit
set_option maxHeartbeats 2000000
set_option linter.unusedVariables false
set_option linter.unusedSimpArgs false
/-- one cell of a box is written: the list l' has it so -/
theorem St.upd {l l' : List (Nat × Nat × Value)} {B : Nat} {a : Option Addr} {len cap : Nat} {w0 W : World} (h : St l B a len cap w0 W) (g j : Nat) (v u : Value) (hg : (g, j, v) ∈ l) (hl : ∀ x ∈ l', x = (g, j, u) ∨ (x ∈ l ∧ (x.1 ≠ g ∨ x.2.1 ≠ j))) :
    St l' B a len cap w0 (W.setCell ⟨g, j, none⟩ u) := by
  have h1 := St.put h g j v u hg
  refine ⟨fun x hx => ?_, h1.2⟩
  rcases hl x hx with rfl | ⟨hm, hne⟩
  · exact h1.1 _ (by simp)
  · refine h1.1 x (List.mem_cons_of_mem _ (List.mem_filter.2 ⟨hm, ?_⟩))
    rcases hne with hne | hne <;> simp [hne]
def Sm (x : Int) : Prop := -1000000 ≤ x ∧ x ≤ 1000000
def Sh (x : Int) : Prop := -500000 ≤ x ∧ x ≤ 500000
/-- what a draw of an interval leaves -/
def DrawnIv (w : World) (B : Nat) (a : Option Addr) (len cap : Nat) (e : Ending) (w' : World) : Prop :=
  ∃ x y : Int, e = .returned (.agg #[.int .i64 x, .int .i64 y]) ∧ Sm x ∧ Sm y ∧ Src w' B a len cap ∧ w.grownBy w' (some B)
theorem s_DrawInterval (B : Nat) (a : Option Addr) (len cap : Nat) (lo hi : Int) (w : World) (hs : Src w B a len cap) (h0 : 0 ≤ lo) (h1 : lo ≤ hi) (h2 : hi ≤ 100000) :
    Calls Try.prog 109 #[.pointer (some ⟨B, 0, none⟩), .int .i64 lo, .int .i64 hi] w (DrawnIv w B a len cap) := by
  have HS := Lib.hid hs
  clear hs
  go_enter Try.func109, Try.ntmps109
  go_wp2_with fail
  have T0 := Lib.hid ((St.begin HS.out).box2 (.int .i64 0) (.int .i64 0) 28)
  refine (s_Next B a len cap _ _ T0.out.src (by omega) (by omega)).mono ?_
  rintro e w1 ⟨x, rfl, x0, x1, x2, src, gr⟩
  have T1 := Lib.hid (T0.out.call src gr)
  have hx : x ≤ hi - lo := by
    by_cases c : 1 < hi - lo + 1
    · have := x1 c; omega
    · have := x2 (by omega); omega
  clear gr src x1 x2
  have hq : 0 ≤ (hi - lo) / 4 ∧ (hi - lo) / 4 ≤ 100000 := by omega
  obtain ⟨q1, q2⟩ := hq
  go_wp2_with fail
  refine (s_Next B a len cap _ _ T1.out.src (by omega) (by omega)).mono ?_
  rintro e w2 ⟨y, rfl, y0, y1, y2, src, gr⟩
  have T2 := Lib.hid (T1.out.call src gr)
  have hy : y ≤ 100000 := by
    by_cases c : 1 < 1 + (hi - lo) / 4
    · have := y1 c; omega
    · have := y2 (by omega); omega
  clear gr src y1 y2
  obtain ⟨f1, f2, f3, f4⟩ := St.s2 T2.out
  have fin : ∀ u v : Value, Hid (Src ((w2.setCell ⟨w.heap.size, 0, none⟩ u).setCell ⟨w.heap.size, 1, none⟩ v) B a len cap ∧ w.grownBy ((w2.setCell ⟨w.heap.size, 0, none⟩ u).setCell ⟨w.heap.size, 1, none⟩ v) (some B)) := by
    intro u v
    have h := ((T2.out.fewer.fewer).set w.heap.size 0 u (Nat.le_refl _) (by simp)).set w.heap.size 1 v (Nat.le_refl _) (by simp)
    exact Lib.hid ⟨h.src, h.grown⟩
  by_cases c : hi ≤ lo + x + y
  · go_wp2
    refine bodyPost_ret (v := .agg #[.int .i64 (lo + x), .int .i64 hi]) (by simp [results, Try.results109, go_sem, *]) rfl ⟨_, _, rfl, ⟨by omega, by omega⟩, ⟨by omega, by omega⟩, (fin _ _).out⟩
  · have c : lo + x + y < hi := by omega
    go_wp2
    refine bodyPost_ret (v := .agg #[.int .i64 (lo + x), .int .i64 (lo + x + y)]) (by simp [results, Try.results109, go_sem, *]) rfl ⟨_, _, rfl, ⟨by omega, by omega⟩, ⟨by omega, by omega⟩, (fin _ _).out⟩
/-- what a draw of a segment leaves -/
def DrawnSg (w : World) (B : Nat) (a : Option Addr) (len cap : Nat) (e : Ending) (w' : World) : Prop :=
  ∃ k l r x y z t : Int, e = .returned (.agg #[.int .i64 k, .int .i64 l, .int .i64 r, .int .i64 x, .int .i64 y, .int .i64 z, .int .i64 t]) ∧ Sm k ∧ Sh l ∧ Sm r ∧ Sm x ∧ Sm y ∧ Sm z ∧ Sm t ∧ Src w' B a len cap ∧ w.grownBy w' (some B)
theorem mul_seg (x y : Int) (h1 : -20 ≤ x) (h2 : x ≤ 20) (h3 : 0 ≤ y) (h4 : y ≤ 31000) : -620000 ≤ x * y ∧ x * y ≤ 620000 := by
  have a : x * y ≤ 20 * y := Int.mul_le_mul_of_nonneg_right h2 h3
  have b : -20 * y ≤ x * y := Int.mul_le_mul_of_nonneg_right h1 h3
  omega
set_option maxRecDepth 100000 in
theorem s_DrawSegment (B : Nat) (a : Option Addr) (len cap : Nat) (kind : Int) (w : World) (hs : Src w B a len cap) (h0 : 0 ≤ kind) (h1 : kind ≤ 4) :
    Calls Try.prog 93 #[.pointer (some ⟨B, 0, none⟩), .int .i64 kind] w (DrawnSg w B a len cap) := by
  have HS := Lib.hid hs
  clear hs
  go_enter Try.func93, Try.ntmps93
  go_wp2_with fail
  have T0 := Lib.hid ((St.begin HS.out).box7 (.int .i64 0) (.int .i64 0) (.int .i64 0) (.int .i64 0) (.int .i64 0) (.int .i64 0) (.int .i64 0) 77)
  refine (s_Next B a len cap _ _ T0.out.src (by omega) (by omega)).mono ?_
  rintro e w1 ⟨x, rfl, x0, x1, x2, src, gr⟩
  have T1 := Lib.hid (T0.out.call src gr)
  have hx := x1 (by omega)
  clear gr src x1 x2
  go_wp2_with fail
  refine (s_DrawInterval B a len cap _ _ _ T1.out.src (by omega) (by omega) (by omega)).mono ?_
  rintro e w2 ⟨p, q, rfl, hp, hq, src, gr⟩
  have T2 := Lib.hid (T1.out.call src gr)
  have T3 := Lib.hid (T2.out.box7 (.int .i64 kind) (.int .i64 (1000 + 500 * x)) (.int .i64 0) (.int .i64 p) (.int .i64 q) (.int .i64 0) (.int .i64 0) 77)
  have HP := Lib.hid hp; have HQ := Lib.hid hq
  clear gr src hp hq
  go_wp2_with fail
  obtain ⟨m1, m2⟩ : (1000 ≤ 1000 + 500 * x) ∧ 1000 + 500 * x ≤ 31000 := by omega
  have hsz := T2.out.le
  have hne : w.heap.size ≠ w2.heap.size := by have := (T2.out.szl w.heap.size 0 (.int .i64 0) (by simp)).2; omega
  refine intoSt T3.out ?_
  intro W hW
  have HW := Lib.hid hW
  have hc := (hW.at w2.heap.size 1 (.int .i64 (1000 + 500 * x)) (by simp)).1
  have hf := (hW.at w2.heap.size 2 (.int .i64 0) (by simp)).2
  have hd := (hW.at w2.heap.size 2 (.int .i64 0) (by simp)).1
  clear hW
  go_region_held3 (fun w' => w'.cell? ⟨w2.heap.size, 1, none⟩ = some (.int .i64 (1000 + 500 * x))) (first | assumption | (rw [World.cell?_setCell_other _ _ _ _ (by simp)]; assumption) | go_keep)
    (first
      | (go_at_call 40; refine (s_Next B a len cap _ _ (HW.out.later (by repeat (first | (with_reducible exact Later.refl _) | (with_reducible refine Later.alloc ?_ _) | (with_reducible refine Later.drewN ?_ _) | (with_reducible refine Later.drew ?_) | (with_reducible refine Later.trans ?_ (Hid.out (by assumption)))))).src (by omega) (by omega)).mono ?_; rintro e w5 ⟨y, rfl, y0, y1, y2, src, gr⟩; have T := Lib.hid ((HW.out.later (by repeat (first | (with_reducible exact Later.refl _) | (with_reducible refine Later.alloc ?_ _) | (with_reducible refine Later.drewN ?_ _) | (with_reducible refine Later.drew ?_) | (with_reducible refine Later.trans ?_ (Hid.out (by assumption)))))).call src gr); have hy := y1 (by omega); have hc5 := (St.at T.out w2.heap.size 1 (.int .i64 (1000 + 500 * x)) (by simp)).1; have hd5 := (St.at T.out w2.heap.size 2 (.int .i64 0) (by simp)); obtain ⟨hd5, hf5⟩ := hd5; obtain ⟨p1, p2⟩ := mul_seg (y - 20) (1000 + 500 * x) (by omega) (by omega) (by omega) (by omega); obtain ⟨t1, t2⟩ := tdiv_bd ((y - 20) * (1000 + 500 * x)) 80 620000 p1 p2; have e1 : IntKind.i64.wrap (y - 20) = y - 20 := IntWalk.i64_in _ (by omega); have e2 : IntKind.i64.wrap ((y - 20) * (1000 + 500 * x)) = (y - 20) * (1000 + 500 * x) := IntWalk.i64_in _ (by omega); have e3 : IntKind.i64.wrap (((y - 20) * (1000 + 500 * x)).tdiv 80) = ((y - 20) * (1000 + 500 * x)).tdiv 80 := IntWalk.i64_in _ (by omega); clear src gr y1 y2))
  have fin : ∀ W : World, St [] B a len cap w W → ∀ u0 u1 u2 u3 u4 u5 u6 : Value, Hid (Src (((((((W.setCell ⟨w.heap.size, 0, none⟩ u0).setCell ⟨w.heap.size, 1, none⟩ u1).setCell ⟨w.heap.size, 2, none⟩ u2).setCell ⟨w.heap.size, 3, none⟩ u3).setCell ⟨w.heap.size, 4, none⟩ u4).setCell ⟨w.heap.size, 5, none⟩ u5).setCell ⟨w.heap.size, 6, none⟩ u6) B a len cap ∧ w.grownBy (((((((W.setCell ⟨w.heap.size, 0, none⟩ u0).setCell ⟨w.heap.size, 1, none⟩ u1).setCell ⟨w.heap.size, 2, none⟩ u2).setCell ⟨w.heap.size, 3, none⟩ u3).setCell ⟨w.heap.size, 4, none⟩ u4).setCell ⟨w.heap.size, 5, none⟩ u5).setCell ⟨w.heap.size, 6, none⟩ u6) (some B)) := by
    intro W hW u0 u1 u2 u3 u4 u5 u6
    have h := (((((((hW.set w.heap.size 0 u0 (Nat.le_refl _) (by simp)).set w.heap.size 1 u1 (Nat.le_refl _) (by simp)).set w.heap.size 2 u2 (Nat.le_refl _) (by simp)).set w.heap.size 3 u3 (Nat.le_refl _) (by simp)).set w.heap.size 4 u4 (Nat.le_refl _) (by simp)).set w.heap.size 5 u5 (Nat.le_refl _) (by simp)).set w.heap.size 6 u6 (Nat.le_refl _) (by simp))
    exact Lib.hid ⟨h.src, h.grown⟩
  have FIN := Lib.hid fin
  clear fin
  clear hc hf hd e1 e2 e3 hc5 hd5 hf5
  have TT : Hid (St [(w2.heap.size, 0, .int .i64 kind), (w2.heap.size, 1, .int .i64 (1000 + 500 * x)), (w2.heap.size, 2, .int .i64 (((y - 20) * (1000 + 500 * x)).tdiv 80)), (w2.heap.size, 3, .int .i64 p), (w2.heap.size, 4, .int .i64 q), (w2.heap.size, 5, .int .i64 0), (w2.heap.size, 6, .int .i64 0), (w.heap.size, 0, .int .i64 0), (w.heap.size, 1, .int .i64 0), (w.heap.size, 2, .int .i64 0), (w.heap.size, 3, .int .i64 0), (w.heap.size, 4, .int .i64 0), (w.heap.size, 5, .int .i64 0), (w.heap.size, 6, .int .i64 0)] B a len cap w (w5.setCell ⟨w2.heap.size, 2, none⟩ (.int .i64 (((y - 20) * (1000 + 500 * x)).tdiv 80)))) := Lib.hid (St.upd T.out w2.heap.size 2 (.int .i64 0) _ (by simp) (by simp [hne]))
  generalize (((y - 20) * (1000 + 500 * x)).tdiv 80) = r at *
  by_cases hk : kind = 0
  · subst hk
    obtain ⟨a0, a1, a2, a3, a4, a5, a6, a7, a8, a9, a10, a11, a12, a13, a14, a15, a16, a17, a18, a19, a20, a21, a22, a23, a24, a25, a26, a27⟩ := St.s14 TT.out
    go_wp2_with fail
    refine bodyPost_ret (v := .agg #[.int .i64 0, .int .i64 (1000 + 500 * x), .int .i64 r, .int .i64 p, .int .i64 q, .int .i64 0, .int .i64 0]) (by simp [results, Try.results93, go_sem, *]) rfl ⟨0, _, r, p, q, 0, 0, rfl, ⟨by omega, by omega⟩, ⟨by omega, by omega⟩, ⟨by omega, by omega⟩, HP.out, HQ.out, ⟨by omega, by omega⟩, ⟨by omega, by omega⟩, ?_⟩
    exact (FIN.out _ TT.out.bare _ _ _ _ _ _ _).out
  · have e0 : (kind != 0) = true := by simpa using hk
    clear hk
    go_wp2_with fail
    refine (s_DrawInterval B a len cap _ _ _ TT.out.src (by omega) (by omega) (by omega)).mono ?_
    rintro e w6 ⟨p', q', rfl, hp', hq', src, gr⟩
    have T6 := Lib.hid (TT.out.call src gr)
    have HP' := Lib.hid hp'; have HQ' := Lib.hid hq'
    obtain ⟨d1, d2⟩ := tdiv_bd r 8 620000 t1 t2
    clear gr src hp' hq'
    obtain ⟨a0, a1, a2, a3, a4, a5, a6, a7, a8, a9, a10, a11, a12, a13, a14, a15, a16, a17, a18, a19, a20, a21, a22, a23, a24, a25, a26, a27⟩ := St.s14 T6.out
    have fin2 : ∀ u v z : Value, Hid (St [] B a len cap w (((w6.setCell ⟨w2.heap.size, 5, none⟩ u).setCell ⟨w2.heap.size, 6, none⟩ v).setCell ⟨w2.heap.size, 2, none⟩ z)) := by
      intro u v z
      exact Lib.hid (((T6.out.bare.set w2.heap.size 5 u hsz (by simp)).set w2.heap.size 6 v hsz (by simp)).set w2.heap.size 2 z hsz (by simp))
    have FIN2 := Lib.hid fin2
    clear fin2
    go_wp2_with fail
    refine bodyPost_ret (v := .agg #[.int .i64 kind, .int .i64 (1000 + 500 * x), .int .i64 (r.tdiv 8), .int .i64 p, .int .i64 q, .int .i64 p', .int .i64 q']) (by simp [results, Try.results93, go_sem, *]) rfl ⟨kind, _, _, p, q, p', q', rfl, ⟨by omega, by omega⟩, ⟨by omega, by omega⟩, ⟨by omega, by omega⟩, HP.out, HQ.out, HP'.out, HQ'.out, ?_⟩
    exact (FIN.out _ (FIN2.out _ _ _).out _ _ _ _ _ _ _).out
end Go.Proofs.Ytnmlkigpiaekjaa
