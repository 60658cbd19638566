/- Drawn lists: whatever is drawn, it is a list of int64 that the draw itself made. -/
import Derived.Test.YtkkhmlnneijmgaaDrawN
import Derived.WalkSmall
import Derived.Deep.DeepMust
namespace Go.Proofs.Ytkkhmlnneijmgaa
open Go.RowKit
set_option maxHeartbeats 2000000
set_option linter.unusedVariables false
set_option linter.unusedSimpArgs false
/-- 'v is a slice of int64 of the call's own, in blocks from base on, that reads as l' -/
def Own (w : World) (base : Nat) (v : Value) (l : List Int) : Prop :=
  w.ownsRow base 2 1 v l.length (l.map (Value.int .i64)) ∧ ∀ x ∈ l, InR x
theorem Own.lt {w : World} {base : Nat} {v : Value} {l : List Int} (h : Own w base v l) : ∀ k, v.ownBlock = some k → base ≤ k ∧ k < w.heap.size := h.1.lt
theorem Own.kept {w w' : World} {base : Nat} {v : Value} {l : List Int} {row : Option Nat} (h : Own w base v l) (hg : w.grownBy w' row) (hr : ∀ k, row = some k → k < base) : Own w' base v l := by
  refine ⟨h.1.kept hg ?_, h.2⟩
  cases hv : v.ownBlock with
  | none => exact .inl rfl
  | some k => exact .inr (fun e => by have := hr k e.symm; have := (h.lt k hv).1; omega)
theorem Own.alloc {w : World} {base : Nat} {v : Value} {l : List Int} (h : Own w base v l) (o : Obj) : Own (w.alloc o) base v l := ⟨h.1.alloc o, h.2⟩
theorem Own.sl {w : World} {base : Nat} {v : Value} {l : List Int} (h : Own w base v l) : ∃ a cap, v = .slice a l.length cap ∧ Sl w a l.length l ∧ (∀ x, a = some x → base ≤ x.block) := by
  obtain ⟨h1, h2⟩ := h
  have hlt := h1.lt
  rcases h1.2 with ⟨rfl, h0⟩ | ⟨g, cap, cur, rfl, hb, hg, hnc, hcm, _⟩
  · refine ⟨none, 0, by rw [h0], ⟨rfl, by omega, fun k hk => by omega, h2⟩, fun x hx => by cases hx⟩
  · unfold maxLen at hcm
    exact ⟨some ⟨g, 0, none⟩, cap, rfl, sl_of_row h1 rfl (by omega) h2, fun x hx => by cases hx; exact hb⟩
theorem own_new (w : World) (base : Nat) (h : base ≤ w.heap.size) : Own (w.alloc (.cells #[] 2)) base (.slice (some ⟨w.heap.size, 0, none⟩) 0 0) [] :=
  ⟨World.ownsRow_made w #[] 0 h (by unfold maxLen; omega) (by simp), fun x hx => by simp at hx⟩
theorem Src.kept2 {w w' : World} {B : Nat} {a : Option Addr} {len cap : Nat} {row : Option Nat} (h : Src w B a len cap) (hab : 0 < len → ∀ x, a = some x → x.block < B) (hg : w.grownBy w' row) (hr : ∀ k, row = some k → B < k) : Src w' B a len cap := by
  have hlt := h.lt
  obtain ⟨⟨p, s, h1, h2, h3, hb⟩, hc⟩ := h
  refine ⟨⟨p, s, h1, h2, h3, by rw [← hb]; exact hg.block B hlt (fun e => by have := hr B e.symm; omega)⟩, hc.1, fun k hk => ?_⟩
  obtain ⟨b, off, x, rfl, hne, hx, x0, x1⟩ := hc.2 k hk
  exact ⟨b, off, x, rfl, hne, hg.cell hx (fun e => by have := hr b e.symm; have := hab (by omega) ⟨b, off, none⟩ rfl; simp at this; omega), x0, x1⟩
theorem Bytes.low {w : World} {a : Option Addr} {len : Nat} (h : Bytes w a len) : 0 < len → ∀ x, a = some x → x.block < w.heap.size := by
  intro hl x hx
  obtain ⟨b, off, y, hb, hc, _⟩ := h.2 0 hl
  rw [hx] at hb; cases hb
  exact cell_lt hc
/-- append(out, y), y in a new block of one cell -/
theorem app1 {ops : Array Oper} {rest : List Oper} {o : Oper} {a : Act} {Q : Exit → Act → World → Prop} (hgd : o.guard = none) (s x : Operand)
    (ho : o.op = .call { callee := .builtin .append, args := #[s, x], argTypes := #[29, 29] })
    (base : Nat) (W : World) (T : TypeId) (v : Value) (l : List Int) (y : Int) (hown : Own W base v l) (hs : a.eval s = v) (hx : a.eval x = .slice (some ⟨W.heap.size, 0, none⟩) 1 1) (hy : InR y) (hl : l.length ≤ 1000000000) (hbase : base ≤ W.heap.size)
    (h : ∀ v' w', Own w' base v' (l ++ [y]) → W.grownBy w' v.ownBlock → wpList Try.prog ops Q rest (a.put o.dst v') w') : wpList Try.prog ops Q (o :: rest) a (W.alloc (.cells #[.int .i64 y] T)) := by
  obtain ⟨i0, hi, hz0, hz1, hz2⟩ := info_parts info_i64
  have hc : (W.alloc (.cells #[.int .i64 y] T)).cell? ⟨W.heap.size, 0, none⟩ = some (.int .i64 y) := by
    rw [cell_of_row _ _ 0 _ T (0, 0) (heap_alloc_new W _)]; rfl
  refine wpList_append_own _ hgd s x _ ho base 2 i0 (.int .i64 0) 1 8 Try.underlying29 hi hz0 hz1 hz2 rfl (by decide) v l.length _ hs (hown.1.alloc _) ⟨W.heap.size, 0, none⟩ 1 1 [.int .i64 y] hx rfl ?_ ?_ (by unfold maxLen; omega) (by omega) (by show base ≤ (W.alloc _).heap.size; simp; omega) ?_
  · intro j u hj
    cases j with
    | zero => simp at hj; subst hj; rw [Addr.add_lit]; exact hc
    | succ j => simp at hj
  · intro u hu; simp at hu; subst hu; rfl
  · intro v' w' h1 h2 _
    refine h v' w' ⟨by simpa using h1, ?_⟩ (grown_trans (World.grownBy_alloc W _ _) h2)
    intro z hz; simp at hz; rcases hz with hz | rfl
    · exact hown.2 z hz
    · exact hy
def DrawnL (w : World) (base : Nat) (e : Ending) (w' : World) : Prop :=
  ∃ v l, e = .returned v ∧ Own w' base v l ∧ l.length ≤ 1000 ∧ Below w.heap.size w w'
theorem s_DrawSumOf (a : Option Addr) (len cap : Nat) (w : World) (hs : Bytes w a len) :
    Calls Try.prog 21 #[.slice a len cap] w (DrawnL w (w.heap.size + 1)) := by
  have HS := Lib.hid hs
  have HAB := Lib.hid hs.low
  clear hs
  go_enter Try.func21, Try.ntmps21
  go_wp2_with fail
  refine (s_From a len cap w HS.out).mono ?_
  rintro e w1 ⟨rfl, src, lt, bel⟩
  have S1 := Lib.hid src; have B1 := Lib.hid bel
  clear src bel
  go_wp2_with fail
  have own0 : Own (w1.alloc (.cells #[] 2)) (w.heap.size + 1) (.slice (some ⟨w1.heap.size, 0, none⟩) 0 0) [] := own_new w1 _ (by omega)
  refine (s_Next w.heap.size a len cap 9 _ (S1.out.alloc _) (by omega) (by omega)).mono ?_
  rintro e w2 ⟨r, rfl, r0, r1, r2, src, gr⟩
  have S2 := Lib.hid src
  have B2 := Lib.hid ((B1.out.alloc (Nat.le_of_lt lt) _).trans (grown_below gr (Nat.le_refl _) (by simp; omega)))
  have O2 := Lib.hid (own0.kept gr (by intro k hk; cases hk; omega))
  have hr := r1 (by omega)
  clear src gr own0 r1 r2
  go_wp2_with fail
  go_loopw [4, 5] (fun v i wr => ∃ (k : Nat) (l : List Int), i = .int .i64 k ∧ l.length + k ≤ 9 ∧ Own wr (w.heap.size + 1) v l ∧ Src wr w.heap.size a len cap ∧ Below w.heap.size w wr) (fun _ i _ => (intOf i).toNat)
  case atStart =>
    obtain ⟨k, rfl⟩ := Int.eq_ofNat_of_zero_le r0
    exact ⟨k, [], rfl, by simp; omega, O2.out, S2.out, B2.out⟩
  case round =>
    obtain ⟨k, l, rfl, hl, ho, src, bel⟩ := hrel
    have O3 := Lib.hid ho; have S3 := Lib.hid src; have B3 := Lib.hid bel
    clear ho src bel S1 B1 S2 B2 O2
    by_cases hk : 0 < k
    · go_wp2_with fail
      refine (s_DrawValue w.heap.size a len cap _ S3.out).mono ?_
      rintro e w4 ⟨y, rfl, py, src, gr⟩
      have S4 := Lib.hid src
      have B4 := Lib.hid (B3.out.trans (grown_below gr (Nat.le_refl _) B3.out.size))
      have O4 := Lib.hid (O3.out.kept gr (by intro k hk; cases hk; omega))
      have PY := Lib.hid py
      have hsz : w.heap.size + 1 ≤ w4.heap.size := by have := src.lt; omega
      clear src gr py
      go_wp2_with (at_builtin; go_must (refine app1 rfl _ _ rfl (w.heap.size + 1) _ _ _ _ _ O4.out rfl rfl PY.out (by omega) hsz ?_; intro v' w5 ho hg))
      have S5 := Lib.hid (S4.out.kept2 HAB.out hg (fun j hj => by have := O4.out.lt j hj; omega))
      have B5 := Lib.hid (B4.out.grown hg B4.out.size (fun j hj => by have := O4.out.lt j hj; omega))
      go_roundw
      case rel => exact ⟨k - 1, l ++ [y], congrArg (Value.int .i64) (by omega), by simp; omega, ho, S5.out, B5.out⟩
      case measure => simp [intOf]; omega
    · go_wp2_with fail
      refine (s_Next w.heap.size a len cap 40 _ S3.out (by omega) (by omega)).mono ?_
      rintro e w4 ⟨x, rfl, x0, x1, x2, src, gr⟩
      have S4 := Lib.hid src
      have B4 := Lib.hid (B3.out.trans (grown_below gr (Nat.le_refl _) B3.out.size))
      have O4 := Lib.hid (O3.out.kept gr (by intro k hk; cases hk; omega))
      clear src gr x1 x2
      by_cases c0 : x = 0
      · subst c0
        go_wp2_with fail
        refine (s_Next w.heap.size a len cap 2 _ S4.out (by omega) (by omega)).mono ?_
        rintro e w5 ⟨y, rfl, y0, y1, y2, src, gr⟩
        have hy := y1 (by omega)
        have B5 := Lib.hid (B4.out.trans (grown_below gr (Nat.le_refl _) B4.out.size))
        have hsz : w.heap.size + 1 ≤ w5.heap.size := by have := src.lt; omega
        clear src gr y1 y2
        obtain ⟨m, rfl⟩ := Int.eq_ofNat_of_zero_le y0
        obtain ⟨i0, hi, hz0, hz1, hz2⟩ := info_parts info_i64
        have HI := Lib.hid hi; clear hi
        have HZ0 := Lib.hid hz0; clear hz0
        have HZ1 := Lib.hid hz1; clear hz1
        have HZ2 := Lib.hid hz2; clear hz2
        go_wp2_with (refine wpList_make_full _ rfl _ _ _ rfl (w.heap.size + 1) 2 i0 (.int .i64 0) 1 Try.underlying29 HI.out HZ0.out HZ1.out _ _ _ _ (200 + m) rfl rfl (by omega) (by omega) (by rw [HZ2.out]; omega) (by unfold maxLen; omega) hsz ?_; intro w6 hown hgrow)
        have ho : Own w6 (w.heap.size + 1) (.slice (some ⟨w5.heap.size, 0, none⟩) (200 + m) (200 + m)) (List.replicate (200 + m) 0) := by
          refine ⟨?_, fun x hx => by rw [List.eq_of_mem_replicate hx]; exact ⟨by omega, by omega⟩⟩
          have := toList_madeCells_one (.int .i64 0) (200 + m)
          simpa [Value.cells, this] using hown
        have B6 := B5.out.grown hgrow B5.out.size (by simp)
        go_ret
        exact ⟨_, _, rfl, ho, by simp; omega, B6⟩
      · have e0 : (x == 0) = false := by simpa using c0
        clear c0
        go_wp2_with fail
        go_ret
        exact ⟨_, _, rfl, O4.out, by omega, B4.out⟩
def DrawnLN (w : World) (base : Nat) (e : Ending) (w' : World) : Prop :=
  ∃ (a : Option Addr) (cap : Nat) (l : List Int) (n : Int), e = .returned (.tuple #[.slice a l.length cap, .int .i64 n]) ∧ Own w' base (.slice a l.length cap) l ∧ l.length ≤ 1000 ∧ InR n ∧ Below w.heap.size w w'
def ListOf (w : World) (B : Nat) (a : Option Addr) (len cap : Nat) (e : Ending) (w' : World) : Prop :=
  ∃ v l, e = .returned v ∧ Own w' (B + 1) v l ∧ l.length ≤ 1000 ∧ Src w' B a len cap ∧ Below B w w'
theorem s_DrawList (B : Nat) (a : Option Addr) (len cap : Nat) (n most : Int) (w : World) (hs : Src w B a len cap) (hab : 0 < len → ∀ x, a = some x → x.block < B) (hn : 0 ≤ n) (hn2 : n ≤ 1000000) (hm : 0 ≤ most) (hm2 : most ≤ 200) :
    Calls Try.prog 42 #[.pointer (some ⟨B, 0, none⟩), .int .i64 n, .int .i64 most] w (ListOf w B a len cap) := by
  have S0 := Lib.hid hs
  have HAB := Lib.hid hab
  have lt0 := hs.lt
  clear hs hab
  obtain ⟨i0, rfl⟩ := Int.eq_ofNat_of_zero_le hm
  rcases (show n < 4 ∨ (4 ≤ n ∧ n < 8) ∨ 8 ≤ n by omega) with h | ⟨h, h'⟩ | h
  all_goals
    go_enter Try.func42, Try.ntmps42
    go_wp2_with fail
    have own0 : Own (w.alloc (.cells #[] 2)) (B + 1) (.slice (some ⟨w.heap.size, 0, none⟩) 0 0) [] := own_new w _ (by omega)
    refine (s_Next B a len cap _ _ (S0.out.alloc _) (by omega) (by omega)).mono ?_
    rintro e w1 ⟨r, rfl, r0, r1, r2, src, gr⟩
    have hr : r ≤ 1000000 := by omega
    have S1 := Lib.hid src
    have B1 := Lib.hid (((Below.refl B w).alloc (Nat.le_of_lt lt0) _).trans (grown_below gr (Nat.le_refl _) (by simp; omega)))
    have O1 := Lib.hid (own0.kept gr (by intro k hk; cases hk; omega))
    clear src gr own0 r1 r2
    go_wp2_with fail
    refine (s_Next B a len cap _ _ S1.out (by omega) (by omega)).mono ?_
    rintro e w2 ⟨x, rfl, x0, x1, x2, src, gr⟩
    have hx : x ≤ i0 := by omega
    have S2 := Lib.hid src
    have B2 := Lib.hid (B1.out.trans (grown_below gr (Nat.le_refl _) (by have := S1.out.lt; omega)))
    have O2 := Lib.hid (O1.out.kept gr (by intro k hk; cases hk; omega))
    clear src gr x1 x2
    go_wp2_with fail
    go_loopw [7, 8, 9] (fun v p i wr => ∃ (k : Nat) (q : Int) (l : List Int), i = .int .i64 k ∧ p = .int .i64 q ∧ 0 ≤ q ∧ q ≤ 2000000 ∧ l.length + k ≤ i0 ∧ Own wr (B + 1) v l ∧ Src wr B a len cap ∧ Below B w wr) (fun _ _ i _ => (intOf i).toNat)
    case atStart =>
      obtain ⟨k, rfl⟩ := Int.eq_ofNat_of_zero_le x0
      exact ⟨k, r, [], rfl, rfl, r0, by omega, by simp; omega, O2.out, S2.out, B2.out⟩
    case round =>
      obtain ⟨k, q, l, rfl, rfl, q0, q1, hl, ho, src, bel⟩ := hrel
      have O3 := Lib.hid ho; have S3 := Lib.hid src; have B3 := Lib.hid bel
      have hsz : B + 1 ≤ wr.heap.size := by have := src.lt; omega
      clear ho src bel S1 B1 S2 B2 O2 O1
      by_cases hk : 0 < k ∧ q < n
      · obtain ⟨hk, hq⟩ := hk
        go_wp2_with (at_builtin; go_must (refine app1 rfl _ _ rfl (B + 1) _ _ _ _ _ O3.out rfl rfl ⟨by omega, by omega⟩ (by omega) hsz ?_; intro v' w5 ho hg))
        have S5 := Lib.hid (S3.out.kept2 HAB.out hg (fun j hj => by have := O3.out.lt j hj; omega))
        have B5 := Lib.hid (B3.out.grown hg (by omega) (fun j hj => by have := O3.out.lt j hj; omega))
        have O5 := Lib.hid ho
        clear ho hg
        refine (s_Next B a len cap _ _ S5.out (by omega) (by omega)).mono ?_
        rintro e w6 ⟨y, rfl, y0, y1, y2, src, gr⟩
        have hy : y ≤ 1000000 := by omega
        have S6 := Lib.hid src
        have B6 := Lib.hid (B5.out.trans (grown_below gr (Nat.le_refl _) (by have := S5.out.lt; omega)))
        have O6 := Lib.hid (O5.out.kept gr (by intro k hk; cases hk; omega))
        clear src gr y1 y2
        go_wp2_with fail
        go_roundw
        case rel => exact ⟨k - 1, q + 1 + y, l ++ [q], congrArg (Value.int .i64) (by omega), rfl, by omega, by omega, by simp; omega, O6.out, S6.out, B6.out⟩
        case measure => simp [intOf]; omega
      · have ht : (0 < k ∧ n ≤ q) ∨ ¬ 0 < k := by omega
        rcases ht with ⟨hk1, hq⟩ | hk1
        all_goals
          clear hk
          go_wp2_with fail
          refine (s_Next B a len cap 30 _ S3.out (by omega) (by omega)).mono ?_
          rintro e w4 ⟨x, rfl, x0, x1, x2, src, gr⟩
          have S4 := Lib.hid src
          have B4 := Lib.hid (B3.out.trans (grown_below gr (Nat.le_refl _) (by omega)))
          have O4 := Lib.hid (O3.out.kept gr (by intro k hk; cases hk; omega))
          have hsz4 : B + 1 ≤ w4.heap.size := by have := src.lt; omega
          clear src gr x1 x2
          rcases (show x = 0 ∨ x = 1 ∨ 1 < x by omega) with rfl | rfl | c
          · go_wp2_with (at_builtin; go_must (refine app1 rfl _ _ rfl (B + 1) _ _ _ _ _ O4.out rfl rfl ⟨by omega, by omega⟩ (by omega) hsz4 ?_; intro v' w5 ho hg))
            go_ret
            exact ⟨_, _, rfl, ho, by simp; omega, S4.out.kept2 HAB.out hg (fun j hj => by have := O4.out.lt j hj; omega), B4.out.grown hg (by omega) (fun j hj => by have := O4.out.lt j hj; omega)⟩
          · go_wp2_with (at_builtin; go_must (refine app1 rfl _ _ rfl (B + 1) _ _ _ _ _ O4.out rfl rfl ⟨by omega, by omega⟩ (by omega) hsz4 ?_; intro v' w5 ho hg))
            go_ret
            exact ⟨_, _, rfl, ho, by simp; omega, S4.out.kept2 HAB.out hg (fun j hj => by have := O4.out.lt j hj; omega), B4.out.grown hg (by omega) (fun j hj => by have := O4.out.lt j hj; omega)⟩
          · have e0 : (x == 0) = false := by simp; omega
            have e1 : (x == 1) = false := by simp; omega
            clear c
            go_wp2_with fail
            go_ret
            exact ⟨_, _, rfl, O4.out, by omega, S4.out, B4.out⟩
theorem s_DrawIsRising (a : Option Addr) (len cap : Nat) (w : World) (hs : Bytes w a len) :
    Calls Try.prog 24 #[.slice a len cap] w (DrawnLN w (w.heap.size + 1)) := by
  have HS := Lib.hid hs
  have HAB := Lib.hid hs.low
  clear hs
  go_enter Try.func24, Try.ntmps24
  go_wp2_with fail
  refine (s_From a len cap w HS.out).mono ?_
  rintro e w1 ⟨rfl, src, lt, bel⟩
  have S1 := Lib.hid src; have B1 := Lib.hid bel
  clear src bel
  go_wp2_with fail
  refine (s_Next w.heap.size a len cap 20 _ S1.out (by omega) (by omega)).mono ?_
  rintro e w2 ⟨r, rfl, r0, r1, r2, src, gr⟩
  have hr := r1 (by omega)
  have S2 := Lib.hid src
  have B2 := Lib.hid (B1.out.trans (grown_below gr (Nat.le_refl _) B1.out.size))
  clear src gr r1 r2
  go_wp2_with fail
  refine (s_DrawList w.heap.size a len cap r 6 _ S2.out HAB.out (by omega) (by omega) (by omega) (by omega)).mono ?_
  rintro e w3 ⟨v, l, rfl, ho, hl, src, bel⟩
  obtain ⟨x, c, rfl, _, _⟩ := ho.sl
  have O3 := Lib.hid ho
  have B3 := Lib.hid (B2.out.trans bel)
  clear ho src bel
  go_wp2_with fail
  go_ret2
  exact ⟨_, _, _, _, rfl, O3.out, hl, ⟨by omega, by omega⟩, B3.out⟩
end Go.Proofs.Ytkkhmlnneijmgaa
