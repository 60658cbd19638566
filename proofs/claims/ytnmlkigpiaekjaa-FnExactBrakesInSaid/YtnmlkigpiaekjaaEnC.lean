/- Contracts of chapter 6: the closure that sums the changes along a run, of the program. -/
import Derived.Test.YtnmlkigpiaekjaaEnL
import Derived.Test.YtnmlkigpiaekjaaEnP
import Derived.Test.YtnmlkigpiaekjaaMarkS
namespace Go.Proofs.Ytnmlkigpiaekjaa
open Go.RowKit
set_option maxHeartbeats 4000000
set_option linter.unusedVariables false
set_option linter.unusedSimpArgs false
theorem grown_allocC {a b : World} {r : Option Nat} (h : a.grownBy b r) (o : Obj) : a.grownBy (b.alloc o) r := grown_trans h (World.grownBy_alloc b o r)
theorem grown_laterC {a b c : World} {r : Option Nat} (h : a.grownBy b r) (k : Later b c) : a.grownBy c r := grown_trans h ⟨k.os, k.tape, k.output, k.size, fun i hi _ => k.block i hi⟩
theorem grown_drewN' {a b : World} {r : Option Nat} (h : a.grownBy b r) (q : Nat) : a.grownBy (b.drewN q) r := grown_trans h (grown_drewN b q r)
theorem grown_drewC {a b : World} {r : Option Nat} (h : a.grownBy b r) : a.grownBy b.drew r := grown_laterC h (Later.refl _).drew
theorem fr_set {g : Nat} {l : List Value} {w : World} (h : Fr g l w) (j : Nat) (u : Value) : Fr g (l.set j u) (w.setCell ⟨g, j, none⟩ u) := by
  refine ⟨by rw [World.size_setCell]; exact h.1, fun i v hi => ?_⟩
  rw [World.frozen?_setCell]
  rw [List.getElem?_set] at hi
  by_cases e : j = i
  · subst e
    rw [if_pos rfl] at hi
    split at hi
    · cases hi
      rename_i hl
      obtain ⟨c, f⟩ := h.2 j _ (List.getElem?_eq_getElem hl)
      exact ⟨World.cell?_setCell_same _ _ _ c, f⟩
    · cases hi
  · rw [if_neg e] at hi
    obtain ⟨c, f⟩ := h.2 i v hi
    refine ⟨?_, f⟩
    rw [World.cell?_setCell_other _ _ _ _ (by simp [e]; try omega)]
    exact c
theorem fr_far {g : Nat} {l : List Value} {w : World} (h : Fr g l w) (p : Addr) (u : Value) (hp : p.block ≠ g) : Fr g l (w.setCell p u) := by
  refine ⟨by rw [World.size_setCell]; exact h.1, fun i v hi => ?_⟩
  obtain ⟨c, f⟩ := h.2 i v hi
  rw [World.frozen?_setCell]
  refine ⟨?_, f⟩
  rw [World.cell?_setCell_far _ _ _ _ hp]
  exact c
theorem fr_kept {g : Nat} {l : List Value} {w w' : World} {r : Option Nat} (h : Fr g l w) (hg : w.grownBy w' r) (hr : r ≠ some g) : Fr g l w' := by
  refine ⟨Nat.lt_of_lt_of_le h.1 hg.size, fun i v hi => ?_⟩
  obtain ⟨c, f⟩ := h.2 i v hi
  exact ⟨hg.cell c (fun e => hr e.symm), by rw [World.frozen?_of_block (w := w) (hg.block g h.1 (fun e => hr e.symm))]; exact f⟩
theorem grown_newset {a b : World} {r : Option Nat} (h : a.grownBy b r) (p : Addr) (u : Value) (hp : a.heap.size ≤ p.block) : a.grownBy (b.setCell p u) r :=
  ⟨h.os, h.tape, h.output, by rw [World.size_setCell]; exact h.size, fun i hi hr => by rw [heap_setCell_other b p i u (by omega)]; exact h.block i hi hr⟩
/-- the closure that sums, its sum in block g -/
def sumF (g : Nat) : Value := .func (.func 76) #[] #[.pointer (some ⟨g, 0, none⟩)]
theorem i_coasting (a b : Int) (w : World) :
    Calls Try.prog 44 #[.agg #[.int .i64 a, .int .i64 b]] w fun e w' => ∃ g, e = .returned (sumF g) ∧ w.heap.size ≤ g ∧ Fr g [.int .i64 a, .int .i64 b] w' ∧ Later w w' := by
  go_enter Try.func44, Try.ntmps44
  go_wp2_with fail
  go_ret
  have F1 := fr_alloc (X := w.alloc (.cells #[.int .i64 a, .int .i64 b] 28)) (l := [.int .i64 a, .int .i64 b]) (T := 28) (Later.refl _)
  rw [World.size_alloc] at F1
  exact ⟨w.heap.size + 1, rfl, by omega, F1, (by repeat (first | (with_reducible exact Later.refl _) | (with_reducible exact Hid.out (by assumption)) | (with_reducible refine Later.alloc ?_ _) | (with_reducible refine Later.setCell ?_ (by simp; omega) _) | (with_reducible refine Later.setCell ?_ (by simp) _) | (with_reducible refine Later.drewN ?_ _) | (with_reducible refine Later.drew ?_) | (with_reducible refine Later.trans ?_ (Hid.out (by assumption)))))⟩
theorem i_coasting1 (x : Sg) (g : Nat) (a b : Int) (w : World) (h : sgB x = true) (hF : Fr g [.int .i64 a, .int .i64 b] w) (ha : -1000000000000 ≤ a) (ha' : a ≤ 1000000000000) (hb : -1000000000000 ≤ b) (hb' : b ≤ 1000000000000) :
    Calls Try.prog 76 #[.agg #[.int .i64 x.k, .int .i64 x.l, .int .i64 x.r, .int .i64 x.a, .int .i64 x.b, .int .i64 x.c, .int .i64 x.d], .pointer (some ⟨g, 0, none⟩)] w fun e w' => e = .returned (.agg #[.int .i64 (a + chL x), .int .i64 (b + chH x)]) ∧ Fr g [.int .i64 (a + chL x), .int .i64 (b + chH x)] w' ∧ w.grownBy w' (some g) := by
  obtain ⟨c1, c2, c3⟩ := ch_bd x h
  have hlt := hF.lt
  have HF := Lib.hid hF
  clear hF
  go_enter Try.func76, Try.ntmps76
  go_upto_region 1 with (fail)
  refine into (fun w' => Fr w.heap.size [.int .i64 x.k, .int .i64 x.l, .int .i64 x.r, .int .i64 x.a, .int .i64 x.b, .int .i64 x.c, .int .i64 x.d] w' ∧ Fr (w.heap.size + 1) [.int .i64 0, .int .i64 0] w' ∧ Fr g [.int .i64 a, .int .i64 b] w' ∧ Later w w') ⟨?_, ?_, fr_later HF.out (by repeat (first | (with_reducible exact Later.refl _) | (with_reducible exact Hid.out (by assumption)) | (with_reducible refine Later.alloc ?_ _) | (with_reducible refine Later.setCell ?_ (by simp; omega) _) | (with_reducible refine Later.setCell ?_ (by simp) _) | (with_reducible refine Later.drewN ?_ _) | (with_reducible refine Later.drew ?_) | (with_reducible refine Later.trans ?_ (Hid.out (by assumption))))), (by repeat (first | (with_reducible exact Later.refl _) | (with_reducible exact Hid.out (by assumption)) | (with_reducible refine Later.alloc ?_ _) | (with_reducible refine Later.setCell ?_ (by simp; omega) _) | (with_reducible refine Later.setCell ?_ (by simp) _) | (with_reducible refine Later.drewN ?_ _) | (with_reducible refine Later.drew ?_) | (with_reducible refine Later.trans ?_ (Hid.out (by assumption)))))⟩ ?_
  · exact fr_later (fr_alloc (X := w) (l := [.int .i64 x.k, .int .i64 x.l, .int .i64 x.r, .int .i64 x.a, .int .i64 x.b, .int .i64 x.c, .int .i64 x.d]) (T := 77) (Later.refl _)) ((Later.refl _).alloc (.cells #[.int .i64 0, .int .i64 0] 28))
  · have F2 := fr_alloc (X := w.alloc (.cells #[.int .i64 x.k, .int .i64 x.l, .int .i64 x.r, .int .i64 x.a, .int .i64 x.b, .int .i64 x.c, .int .i64 x.d] 77)) (l := [.int .i64 0, .int .i64 0]) (T := 28) (Later.refl _)
    rw [World.size_alloc] at F2
    exact F2
  rintro W ⟨X, R, F, hl⟩
  have HL := Lib.hid hl
  obtain ⟨x0, x1, x2, x3, x4, x5, x6, _⟩ := Fr.o7 X
  obtain ⟨r1, r2, r3, r4⟩ := Fr.o2 R
  obtain ⟨f1, f2, f3, f4⟩ := Fr.o2 F
  clear hl X
  go_region_with (first
      | (go_at_call 78; refine (i_coastingChange x _ h).mono ?_; rintro e w1 ⟨rfl, hb⟩; have H := Lib.hid hb; (first | (have F := fr_later F hb; obtain ⟨f1, f2, f3, f4⟩ := Fr.o2 F) | (have F := fr_later F (later_undrew hb); obtain ⟨f1, f2, f3, f4⟩ := Fr.o2 F) | (have F := fr_later F (later_undrewN hb); obtain ⟨f1, f2, f3, f4⟩ := Fr.o2 F)); (first | (have R := fr_later R hb; obtain ⟨r1, r2, r3, r4⟩ := Fr.o2 R) | (have R := fr_later R (later_undrew hb); obtain ⟨r1, r2, r3, r4⟩ := Fr.o2 R) | (have R := fr_later R (later_undrewN hb); obtain ⟨r1, r2, r3, r4⟩ := Fr.o2 R)); clear hb)
      | (go_at_call 77; refine (i_plus _ _ _ _ _ (by omega) (by omega) (by omega) (by omega) (by omega) (by omega) (by omega) (by omega)).mono ?_; rintro e w1 ⟨rfl, hb⟩; have H := Lib.hid hb; (first | (have F := fr_later F hb; obtain ⟨f1, f2, f3, f4⟩ := Fr.o2 F) | (have F := fr_later F (later_undrew hb); obtain ⟨f1, f2, f3, f4⟩ := Fr.o2 F) | (have F := fr_later F (later_undrewN hb); obtain ⟨f1, f2, f3, f4⟩ := Fr.o2 F)); (first | (have R := fr_later R hb; obtain ⟨r1, r2, r3, r4⟩ := Fr.o2 R) | (have R := fr_later R (later_undrew hb); obtain ⟨r1, r2, r3, r4⟩ := Fr.o2 R) | (have R := fr_later R (later_undrewN hb); obtain ⟨r1, r2, r3, r4⟩ := Fr.o2 R)); clear hb))
  all_goals
    have G : Hid (w.grownBy w1 (some g)) := Lib.hid (grown_laterC (grown_refl w (some g)) (by repeat (first | (with_reducible exact Later.refl _) | (with_reducible exact Hid.out (by assumption)) | (with_reducible refine Later.alloc ?_ _) | (with_reducible refine Later.setCell ?_ (by simp; omega) _) | (with_reducible refine Later.setCell ?_ (by simp) _) | (with_reducible refine Later.drewN ?_ _) | (with_reducible refine Later.drew ?_) | (with_reducible refine Later.trans ?_ (Hid.out (by assumption))))))
    have hne : ¬ g = w.heap.size + 1 := by omega
    have hne' : ¬ w.heap.size + 1 = g := by omega
    go_wp2_with fail
    refine bodyPost_ret (v := .agg #[.int .i64 (a + chL x), .int .i64 (b + chH x)]) (by simp [results, Try.results76, go_sem, *]) rfl ⟨rfl, ?_, ?_⟩
    · exact fr_far (fr_far (fr_set (fr_set F 0 _) 1 _) _ _ (by simp <;> omega)) _ _ (by simp <;> omega)
    · exact grown_newset (grown_newset (grown_set1 (grown_set1 G.out _ _) _ _) _ _ (by simp)) _ _ (by simp)
end Go.Proofs.Ytnmlkigpiaekjaa
