/- Drawn fronts and sensors of chapter 5. -/
import Derived.Test.YtehinlecppbjeaaOcD
import Derived.Test.YtehinlecppbjeaaOcU
import Derived.Test.YtehinlecppbjeaaApp
import Derived.WalkSmall
import Derived.Deep.DeepMust
namespace Go.Proofs.Ytehinlecppbjeaa
open Go.RowKit
set_option maxHeartbeats 4000000
set_option linter.unusedVariables false
set_option linter.unusedSimpArgs false
theorem Src.kept3 {w w' : World} {B N : Nat} {a : Option Addr} {len cap : Nat} {row : Option Nat} (h : Src w B a len cap) (hab : 0 < len → ∀ x, a = some x → x.block < N) (hBN : B < N) (hg : w.grownBy w' row) (hr : ∀ k, row = some k → N ≤ k) : Src w' B a len cap := by
  have hlt := h.lt
  obtain ⟨⟨p, s, h1, h2, h3, hb⟩, hc⟩ := h
  refine ⟨⟨p, s, h1, h2, h3, by rw [← hb]; exact hg.block B hlt (fun e => by have := hr B e.symm; omega)⟩, hc.1, fun k hk => ?_⟩
  obtain ⟨b, off, x, rfl, hne, hx, x0, x1⟩ := hc.2 k hk
  exact ⟨b, off, x, rfl, hne, hg.cell hx (fun e => by have := hr b e.symm; have := hab (by omega) ⟨b, off, none⟩ rfl; simp at this; omega), x0, x1⟩
/-- a world that grew beside a block of the call's own -/
theorem St.own {l : List (Nat × Nat × Value)} {B : Nat} {a : Option Addr} {len cap : Nat} {w0 W W1 : World} {row : Option Nat} (h : St l B a len cap w0 W) (hg : W.grownBy W1 row) (hr : ∀ k, row = some k → w0.heap.size ≤ k ∧ ∀ x ∈ l, x.1 ≠ k) : St l B a len cap w0 W1 := by
  have hB := h.lt
  refine ⟨fun x hx => ?_, h.2.1, h.src.kept3 (N := w0.heap.size) h.2.1.low hB hg (fun k e => (hr k e).1), ⟨hg.os.trans h.grown.os, hg.tape.trans h.grown.tape, hg.output.trans h.grown.output, Nat.le_trans h.grown.size hg.size, fun i hi hne => (hg.block i (Nat.lt_of_lt_of_le hi h.grown.size) (fun e => by have := (hr i e.symm).1; omega)).trans (h.grown.block i hi hne)⟩⟩
  obtain ⟨h1, h2, h3, h4⟩ := h.1 x hx
  have hne : some x.1 ≠ row := fun e => (hr x.1 e.symm).2 x hx rfl
  exact ⟨h1, Nat.lt_of_lt_of_le h2 hg.size, hg.cell h3 (by simpa using hne), by rw [World.frozen?_of_block (w := W) (hg.block x.1 h2 (by simpa using hne))]; exact h4⟩
theorem wr_rng (x : Int) : -9223372036854775808 ≤ IntKind.i64.wrap x ∧ IntKind.i64.wrap x ≤ 9223372036854775807 := by
  simp [IntKind.wrap, IntKind.signed, IntKind.bits, wrap64]
  omega
/-- what hands back a drawn list leaves -/
def DrawnOL (w : World) (B : Nat) (a : Option Addr) (len cap : Nat) (e : Ending) (w' : World) : Prop :=
  ∃ v l, e = .returned v ∧ Own w' w.heap.size v l ∧ l.length ≤ 1000 ∧ Src w' B a len cap ∧ w.grownBy w' (some B)
set_option maxRecDepth 100000 in
theorem s_DrawSensors5 (B : Nat) (a : Option Addr) (len cap : Nat) (a' : Option Addr) (n cap' : Nat) (L : List Sg) (w : World) (hs : Src w B a len cap) (hl : Sgs w a' n L) (h26 : n ≤ 26) (hsm : ∀ x ∈ L, SmW x) :
    Calls Try.prog 96 #[.pointer (some ⟨B, 0, none⟩), .agg #[.slice a' n cap']] w (DrawnOL w B a len cap) := by
  have HS := Lib.hid hs
  have HL := Lib.hid hl
  have SM := Lib.hid hsm
  obtain ⟨t1, t2⟩ := tot_sm hl.1 h26 hsm
  have hBlt := hs.lt
  clear hs hl hsm
  have key : ∀ m : Int, (totL L ≤ 1 ∧ m = 1) ∨ (1 < totL L ∧ m = totL L) → Calls Try.prog 96 #[.pointer (some ⟨B, 0, none⟩), .agg #[.slice a' n cap']] w (DrawnOL w B a len cap) := by
    intro m hm
    go_enter Try.func96, Try.ntmps96
    go_wp2_with fail
    have T0 := Lib.hid ((St.begin HS.out).alloc (.cells #[.slice a' n cap'] 26))
    refine (s_Total_sm a' n cap' L _ (HL.out.later ((Later.refl _).alloc _)) h26 SM.out).mono ?_
    rintro e w1 ⟨rfl, hb⟩
    have T1 := Lib.hid (T0.out.later hb)
    clear hb T0
    obtain ⟨t, ht, hmt⟩ : ∃ t, t = totL L ∧ ((t ≤ 1 ∧ m = 1) ∨ (1 < t ∧ m = t)) := ⟨_, rfl, hm⟩
    rw [← ht] at t1 t2 ⊢
    clear ht hm
    rcases hmt with ⟨h1, hm1⟩ | ⟨h1, hm1⟩
    · clear hm1
      go_wp2_with fail
      refine (s_Next B a len cap _ _ (T1.out.alloc _).src (by omega) (by omega)).mono ?_
      rintro e w2 ⟨x, rfl, x0, x1, x2, src, gr⟩
      have T2 := Lib.hid ((T1.out.alloc (.cells #[] 2)).call src gr)
      have hx := x1 (by omega)
      have O2 : Hid (Own w2 w.heap.size (.slice (some ⟨w1.heap.size, 0, none⟩) 0 0) []) := Lib.hid ((own_new w1 w.heap.size T1.out.le).kept gr (by intro k hk; cases hk; omega))
      clear gr src x1 x2
      go_wp2_with fail
      go_loopw [6, 7] (fun v at' wr => ∃ (l : List Int) (x : Int), at' = .int .i64 x ∧ 0 ≤ x ∧ x ≤ 300000000 ∧ l.length ≤ 12 ∧ Own wr w.heap.size v l ∧ St [] B a len cap w wr) (fun v _ _ => 12 - (match v with | .slice _ n _ => n | _ => 0))
      case atStart => exact ⟨[], x, rfl, x0, by omega, by simp, O2.out, T2.out⟩
      case round =>
        obtain ⟨l, x, rfl, x0, hx, hlen, ho, ht⟩ := hrel
        have T3 := Lib.hid ht
        have O3 := Lib.hid ho
        have hz3 := ht.le
        obtain ⟨sa, sc, rfl, _, _⟩ := ho.sl
        clear ho ht
        by_cases hgo : x < 1 ∧ l.length < 12
        · obtain ⟨g1, g2⟩ := hgo
          go_wp2_with (at_builtin; go_must (refine app1 rfl _ _ rfl w.heap.size _ _ _ _ _ O3.out rfl rfl ⟨by omega, by omega⟩ (by omega) hz3 ?_; intro v' w5 ho hg; have O5 := Lib.hid ho; have T5 := Lib.hid (T3.out.own hg (fun k e => ⟨(O3.out.lt k e).1, fun x hx => by simp at hx⟩)); clear ho hg))
          refine (s_Next B a len cap 9000 _ T5.out.src (by omega) (by omega)).mono ?_
          rintro e w6 ⟨y, rfl, y0, y1, y2, src, gr⟩
          have T6 := Lib.hid (T5.out.call src gr)
          have hy := y1 (by omega)
          have O6 := Lib.hid (O5.out.kept gr (by intro k hk; cases hk; omega))
          obtain ⟨sa', sc', rfl, _, _⟩ := O5.out.sl
          clear gr src y1 y2
          go_wp2_with fail
          go_roundw
          case rel => exact ⟨l ++ [x], x + 1 + y, congrArg (Value.int .i64) (by omega), by omega, by omega, by simp; omega, (by have h := O6.out; rw [List.length_append] at h; exact h), T6.out⟩
          case measure => simp; omega
        · have hst : ¬ (x < 1) ∨ (x < 1 ∧ ¬ (l.length < 12)) := by omega
          clear hgo
          rcases hst with hst | ⟨hst, hst2⟩
          all_goals
            go_wp2_with fail
            refine (s_Next B a len cap 30 _ T3.out.src (by omega) (by omega)).mono ?_
            rintro e w4 ⟨c, rfl, c0, c1, c2, src, gr⟩
            have T4 := Lib.hid (T3.out.call src gr)
            have O4 := Lib.hid (O3.out.kept gr (by intro k hk; cases hk; omega))
            have hz4 := T4.out.le
            clear gr src c1 c2
            by_cases k0 : c = 0
            · subst k0
              go_wp2_with fail
              have hl3 := sl_new w4 [0, 1, -1] 2 (by simp) (by intro x hx; simp at hx; unfold InR; omega)
              refine (s_Pick B a len cap ⟨w4.heap.size, 0, none⟩ 3 3 _ _ (T4.out.src.alloc _) hl3 (by have := T4.out.src.lt; show w4.heap.size ≠ B; omega) (by omega)).mono ?_
              rintro e w5 ⟨u, rfl, hu, src, gr⟩
              have T5 := Lib.hid ((T4.out.alloc _).call src gr)
              have hu2 : -300000000 ≤ u ∧ u ≤ 300000000 := by simp at hu; omega
              have O5 := Lib.hid ((O4.out.alloc _).kept gr (by intro k hk; cases hk; omega))
              have hz5 := T5.out.le
              clear gr src hu hl3
              go_wp2_with (at_builtin; go_must (refine app1 rfl _ _ rfl w.heap.size _ _ _ _ _ O5.out rfl rfl ⟨by omega, by omega⟩ (by omega) hz5 ?_; intro v' w6 ho hg; have O6 := Lib.hid ho; have T6 := Lib.hid (T5.out.own hg (fun k e => ⟨(O5.out.lt k e).1, fun x hx => by simp at hx⟩)); clear ho hg))
              go_ret
              exact ⟨_, _, rfl, O6.out, by simp; omega, T6.out.src, T6.out.grown⟩
            have e0 : (c == 0) = false := by simpa using k0
            by_cases k1 : c = 1
            · subst k1
              go_wp2_with fail
              clear O4 e0 k0
              have O5 := Lib.hid (own_new w4 w.heap.size hz4)
              have T5 := Lib.hid (T4.out.alloc (.cells #[] 2))
              go_loopw [6, 8] (fun v i wr => ∃ (l : List Int) (k : Nat), i = .int .i64 k ∧ k ≤ 33 ∧ l.length = k ∧ Own wr w.heap.size v l ∧ St [] B a len cap w wr) (fun _ i _ => 33 - (intOf i).toNat)
              case atStart => exact ⟨[], 0, rfl, by omega, rfl, O5.out, T5.out⟩
              case round =>
                obtain ⟨l, k, rfl, hk, hlen, ho, ht⟩ := hrel
                have T6 := Lib.hid ht
                have O6 := Lib.hid ho
                clear ho ht
                go_wp2_with fail
                refine (s_Next B a len cap 2 _ T6.out.src (by omega) (by omega)).mono ?_
                rintro e w7 ⟨y, rfl, y0, y1, y2, src, gr⟩
                have T7 := Lib.hid (T6.out.call src gr)
                have hy := y1 (by omega)
                have O7 := Lib.hid (O6.out.kept gr (by intro k hk; cases hk; omega))
                have hz7 := T7.out.le
                clear gr src y1 y2
                by_cases hlt : (k : Int) < 32 + y
                · go_wp2_with (at_builtin; go_must (refine app1 rfl _ _ rfl w.heap.size _ _ _ _ _ O7.out rfl rfl ⟨by omega, by omega⟩ (by omega) hz7 ?_; intro v' w8 ho hg; have O8 := Lib.hid ho; have T8 := Lib.hid (T7.out.own hg (fun k e => ⟨(O7.out.lt k e).1, fun x hx => by simp at hx⟩)); clear ho hg))
                  go_roundw
                  case rel => exact ⟨l ++ [(k : Int)], k + 1, by go_num, by omega, by simp; omega, O8.out, T8.out⟩
                  case measure => simp [intOf]; omega
                · go_wp2_with fail
                  go_ret
                  exact ⟨_, _, rfl, O7.out, by omega, T7.out.src, T7.out.grown⟩
            · have e1 : (c == 1) = false := by simpa using k1
              go_wp2_with fail
              go_ret
              exact ⟨_, _, rfl, O4.out, by omega, T4.out.src, T4.out.grown⟩
    · clear hm1
      go_wp2_with fail
      refine (s_Next B a len cap _ _ (T1.out.alloc _).src (by omega) (by omega)).mono ?_
      rintro e w2 ⟨x, rfl, x0, x1, x2, src, gr⟩
      have T2 := Lib.hid ((T1.out.alloc (.cells #[] 2)).call src gr)
      have hx := x1 (by omega)
      have O2 : Hid (Own w2 w.heap.size (.slice (some ⟨w1.heap.size, 0, none⟩) 0 0) []) := Lib.hid ((own_new w1 w.heap.size T1.out.le).kept gr (by intro k hk; cases hk; omega))
      clear gr src x1 x2
      go_wp2_with fail
      go_loopw [6, 7] (fun v at' wr => ∃ (l : List Int) (x : Int), at' = .int .i64 x ∧ 0 ≤ x ∧ x ≤ 300000000 ∧ l.length ≤ 12 ∧ Own wr w.heap.size v l ∧ St [] B a len cap w wr) (fun v _ _ => 12 - (match v with | .slice _ n _ => n | _ => 0))
      case atStart => exact ⟨[], x, rfl, x0, by omega, by simp, O2.out, T2.out⟩
      case round =>
        obtain ⟨l, x, rfl, x0, hx, hlen, ho, ht⟩ := hrel
        have T3 := Lib.hid ht
        have O3 := Lib.hid ho
        have hz3 := ht.le
        obtain ⟨sa, sc, rfl, _, _⟩ := ho.sl
        clear ho ht
        by_cases hgo : x < t ∧ l.length < 12
        · obtain ⟨g1, g2⟩ := hgo
          go_wp2_with (at_builtin; go_must (refine app1 rfl _ _ rfl w.heap.size _ _ _ _ _ O3.out rfl rfl ⟨by omega, by omega⟩ (by omega) hz3 ?_; intro v' w5 ho hg; have O5 := Lib.hid ho; have T5 := Lib.hid (T3.out.own hg (fun k e => ⟨(O3.out.lt k e).1, fun x hx => by simp at hx⟩)); clear ho hg))
          refine (s_Next B a len cap 9000 _ T5.out.src (by omega) (by omega)).mono ?_
          rintro e w6 ⟨y, rfl, y0, y1, y2, src, gr⟩
          have T6 := Lib.hid (T5.out.call src gr)
          have hy := y1 (by omega)
          have O6 := Lib.hid (O5.out.kept gr (by intro k hk; cases hk; omega))
          obtain ⟨sa', sc', rfl, _, _⟩ := O5.out.sl
          clear gr src y1 y2
          go_wp2_with fail
          go_roundw
          case rel => exact ⟨l ++ [x], x + 1 + y, congrArg (Value.int .i64) (by omega), by omega, by omega, by simp; omega, (by have h := O6.out; rw [List.length_append] at h; exact h), T6.out⟩
          case measure => simp; omega
        · have hst : ¬ (x < t) ∨ (x < t ∧ ¬ (l.length < 12)) := by omega
          clear hgo
          rcases hst with hst | ⟨hst, hst2⟩
          all_goals
            go_wp2_with fail
            refine (s_Next B a len cap 30 _ T3.out.src (by omega) (by omega)).mono ?_
            rintro e w4 ⟨c, rfl, c0, c1, c2, src, gr⟩
            have T4 := Lib.hid (T3.out.call src gr)
            have O4 := Lib.hid (O3.out.kept gr (by intro k hk; cases hk; omega))
            have hz4 := T4.out.le
            clear gr src c1 c2
            by_cases k0 : c = 0
            · subst k0
              go_wp2_with fail
              have hl3 := sl_new w4 [0, t, -1] 2 (by simp) (by intro x hx; simp at hx; unfold InR; omega)
              refine (s_Pick B a len cap ⟨w4.heap.size, 0, none⟩ 3 3 _ _ (T4.out.src.alloc _) hl3 (by have := T4.out.src.lt; show w4.heap.size ≠ B; omega) (by omega)).mono ?_
              rintro e w5 ⟨u, rfl, hu, src, gr⟩
              have T5 := Lib.hid ((T4.out.alloc _).call src gr)
              have hu2 : -300000000 ≤ u ∧ u ≤ 300000000 := by simp at hu; omega
              have O5 := Lib.hid ((O4.out.alloc _).kept gr (by intro k hk; cases hk; omega))
              have hz5 := T5.out.le
              clear gr src hu hl3
              go_wp2_with (at_builtin; go_must (refine app1 rfl _ _ rfl w.heap.size _ _ _ _ _ O5.out rfl rfl ⟨by omega, by omega⟩ (by omega) hz5 ?_; intro v' w6 ho hg; have O6 := Lib.hid ho; have T6 := Lib.hid (T5.out.own hg (fun k e => ⟨(O5.out.lt k e).1, fun x hx => by simp at hx⟩)); clear ho hg))
              go_ret
              exact ⟨_, _, rfl, O6.out, by simp; omega, T6.out.src, T6.out.grown⟩
            have e0 : (c == 0) = false := by simpa using k0
            by_cases k1 : c = 1
            · subst k1
              go_wp2_with fail
              clear O4 e0 k0
              have O5 := Lib.hid (own_new w4 w.heap.size hz4)
              have T5 := Lib.hid (T4.out.alloc (.cells #[] 2))
              go_loopw [6, 8] (fun v i wr => ∃ (l : List Int) (k : Nat), i = .int .i64 k ∧ k ≤ 33 ∧ l.length = k ∧ Own wr w.heap.size v l ∧ St [] B a len cap w wr) (fun _ i _ => 33 - (intOf i).toNat)
              case atStart => exact ⟨[], 0, rfl, by omega, rfl, O5.out, T5.out⟩
              case round =>
                obtain ⟨l, k, rfl, hk, hlen, ho, ht⟩ := hrel
                have T6 := Lib.hid ht
                have O6 := Lib.hid ho
                clear ho ht
                go_wp2_with fail
                refine (s_Next B a len cap 2 _ T6.out.src (by omega) (by omega)).mono ?_
                rintro e w7 ⟨y, rfl, y0, y1, y2, src, gr⟩
                have T7 := Lib.hid (T6.out.call src gr)
                have hy := y1 (by omega)
                have O7 := Lib.hid (O6.out.kept gr (by intro k hk; cases hk; omega))
                have hz7 := T7.out.le
                clear gr src y1 y2
                by_cases hlt : (k : Int) < 32 + y
                · go_wp2_with (at_builtin; go_must (refine app1 rfl _ _ rfl w.heap.size _ _ _ _ _ O7.out rfl rfl ⟨by omega, by omega⟩ (by omega) hz7 ?_; intro v' w8 ho hg; have O8 := Lib.hid ho; have T8 := Lib.hid (T7.out.own hg (fun k e => ⟨(O7.out.lt k e).1, fun x hx => by simp at hx⟩)); clear ho hg))
                  go_roundw
                  case rel => exact ⟨l ++ [(k : Int)], k + 1, by go_num, by omega, by simp; omega, O8.out, T8.out⟩
                  case measure => simp [intOf]; omega
                · go_wp2_with fail
                  go_ret
                  exact ⟨_, _, rfl, O7.out, by omega, T7.out.src, T7.out.grown⟩
            · have e1 : (c == 1) = false := by simpa using k1
              go_wp2_with fail
              go_ret
              exact ⟨_, _, rfl, O4.out, by omega, T4.out.src, T4.out.grown⟩
  by_cases hT : totL L ≤ 1
  · exact key 1 (.inl ⟨hT, rfl⟩)
  · exact key (totL L) (.inr ⟨by omega, rfl⟩)
end Go.Proofs.Ytehinlecppbjeaa
