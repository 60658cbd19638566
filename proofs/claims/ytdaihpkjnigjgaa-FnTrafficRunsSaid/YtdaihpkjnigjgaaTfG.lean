/- The draws of chapter 10's laws. -/
import Derived.Test.YtdaihpkjnigjgaaTfD
import Derived.Maps.AppendAt
namespace Go.Proofs.Ytdaihpkjnigjgaa
open Go.RowKit
set_option maxHeartbeats 4000000
set_option maxRecDepth 100000
set_option linter.unusedVariables false
set_option linter.unusedSimpArgs false
/-- a drawn traffic -/
def DrawnT1 (w : World) (e : Ending) (w' : World) : Prop :=
  ∃ (Bt : Int) (v : Value) (l : List Int), e = .returned (.agg #[.int .i64 Bt, v]) ∧ InR Bt ∧ Own w' w.heap.size v l ∧ l.length ≤ 5 ∧ Later w w'
/-- append(out, y), and where the new row lies -/
theorem app1At {ops : Array Oper} {rest : List Oper} {o : Oper} {a : Act} {Q : Exit → Act → World → Prop} (hgd : o.guard = none) (s x : Operand)
    (ho : o.op = .call { callee := .builtin .append, args := #[s, x], argTypes := #[24, 24] })
    (base : Nat) (W : World) (T : TypeId) (v : Value) (l : List Int) (y : Int) (hown : Own W base v l) (hs : a.eval s = v) (gN : Nat) (hx : a.eval x = .slice (some ⟨gN, 0, none⟩) 1 1) (hgN : gN = W.heap.size) (hy : InR y) (hl : l.length ≤ 1000000000) (hbase : base ≤ W.heap.size)
    (h : ∀ v' w', Own w' base v' (l ++ [y]) → W.grownBy w' v.ownBlock → (v'.ownBlock = v.ownBlock ∨ v'.ownBlock = some (W.heap.size + 1)) → wpList Try.prog ops Q rest (a.put o.dst v') w') : wpList Try.prog ops Q (o :: rest) a (W.alloc (.cells #[.int .i64 y] T)) := by
  subst hgN
  obtain ⟨i0, hi, hz0, hz1, hz2⟩ := info_parts info_i64
  have hc : (W.alloc (.cells #[.int .i64 y] T)).cell? ⟨W.heap.size, 0, none⟩ = some (.int .i64 y) := by
    rw [cell_of_row _ _ 0 _ T (0, 0) (heap_alloc_new W _)]; rfl
  refine wpList_append_own_at _ hgd s x _ ho base 2 i0 (.int .i64 0) 1 8 Try.underlying24 hi hz0 hz1 hz2 rfl (by decide) v l.length _ hs (hown.1.alloc _) ⟨W.heap.size, 0, none⟩ 1 1 [.int .i64 y] hx rfl ?_ ?_ (by unfold maxLen; omega) (by omega) (by show base ≤ (W.alloc _).heap.size; simp; omega) ?_
  · intro j u hj
    cases j with
    | zero => simp at hj; subst hj; rw [Addr.add_lit]; exact hc
    | succ j => simp at hj
  · intro u hu; simp at hu; subst hu; rfl
  · intro v' w' h1 h2 _ h4
    refine h v' w' ⟨by simpa using h1, ?_⟩ (grown_trans (World.grownBy_alloc W _ _) h2) (by simpa using h4)
    intro z hz; simp at hz; rcases hz with hz | rfl
    · exact hown.2 z hz
    · exact hy
set_option maxRecDepth 100000 in
theorem s_DrawAllowedMoves (a : Option Addr) (len cap : Nat) (w : World) (hs : Bytes w a len) :
    Calls Try.prog 25 #[.slice a len cap] w (DrawnT1 w) := by
  have HS := Lib.hid hs
  clear hs
  go_enter Try.func25, Try.ntmps25
  go_wp2_with fail
  refine (s_From a len cap _ (HS.out.later ((Below.refl _ _).alloc (Nat.le_refl _) _))).mono ?_
  rintro e w1 ⟨rfl, src, lt, bel⟩
  rw [World.size_alloc] at src lt bel ⊢
  have S1 := Lib.hid src
  have d0 : w1.cell? ⟨w.heap.size, 0, none⟩ = some (.int .i64 0) := by rw [bel.cell (p := ⟨w.heap.size, 0, none⟩) (Nat.lt_succ_self _)]; simp
  have d1 : w1.cell? ⟨w.heap.size, 1, none⟩ = some (.slice none 0 0) := by rw [bel.cell (p := ⟨w.heap.size, 1, none⟩) (Nat.lt_succ_self _)]; simp
  have d2 : w1.frozen? ⟨w.heap.size, 0, none⟩ = false := by rw [Below.frozen (p := ⟨w.heap.size, 0, none⟩) bel (Nat.lt_succ_self _)]; simp
  have d3 : w1.frozen? ⟨w.heap.size, 1, none⟩ = false := by rw [Below.frozen (p := ⟨w.heap.size, 1, none⟩) bel (Nat.lt_succ_self _)]; simp
  have B1 : Hid (Later w w1) := Lib.hid (((Later.refl w).alloc _).trans (show Later _ w1 from by rw [Later, World.size_alloc]; exact bel))
  clear src bel
  go_wp2_with fail
  refine (s_l10Draw (w.heap.size + 1) a len cap _ S1.out).mono ?_
  rintro e w2 ⟨Bt, v, l, rfl, hb, ho, h5, src, gr⟩
  obtain ⟨a2, c2, rfl, _, _⟩ := ho.sl
  have c0 := gr.cell d0 (by simp)
  have c1 := gr.cell d1 (by simp)
  have c2' : w2.frozen? ⟨w.heap.size, 0, none⟩ = false := by rw [World.frozen?_of_block (w := w1) (gr.block w.heap.size (by omega) (by simp))]; exact d2
  have c3 : w2.frozen? ⟨w.heap.size, 1, none⟩ = false := by rw [World.frozen?_of_block (w := w1) (gr.block w.heap.size (by omega) (by simp))]; exact d3
  have B2 : Hid (Later w w2) := Lib.hid (Below.grown B1.out gr B1.out.size (fun k e => by cases e; omega))
  have HO := Lib.hid ho
  have HB := Lib.hid hb
  clear ho gr src d0 d1 d2 d3 S1 hb
  go_wp2_with fail
  exact bodyPost_ret (v := .agg #[.int .i64 Bt, .slice a2 l.length c2]) (by simp [results, Try.results25, go_sem, *]) rfl ⟨Bt, _, l, rfl, HB.out, tf_mono (own_res HO.out (by omega)) (by omega), h5, put_res (Nat.le_refl _) B2.out⟩
set_option maxRecDepth 100000 in
theorem s_DrawUsesOfBlocks (a : Option Addr) (len cap : Nat) (w : World) (hs : Bytes w a len) :
    Calls Try.prog 37 #[.slice a len cap] w (DrawnT1 w) := by
  have HS := Lib.hid hs
  clear hs
  go_enter Try.func37, Try.ntmps37
  go_wp2_with fail
  refine (s_From a len cap _ (HS.out.later ((Below.refl _ _).alloc (Nat.le_refl _) _))).mono ?_
  rintro e w1 ⟨rfl, src, lt, bel⟩
  rw [World.size_alloc] at src lt bel ⊢
  have S1 := Lib.hid src
  have d0 : w1.cell? ⟨w.heap.size, 0, none⟩ = some (.int .i64 0) := by rw [bel.cell (p := ⟨w.heap.size, 0, none⟩) (Nat.lt_succ_self _)]; simp
  have d1 : w1.cell? ⟨w.heap.size, 1, none⟩ = some (.slice none 0 0) := by rw [bel.cell (p := ⟨w.heap.size, 1, none⟩) (Nat.lt_succ_self _)]; simp
  have d2 : w1.frozen? ⟨w.heap.size, 0, none⟩ = false := by rw [Below.frozen (p := ⟨w.heap.size, 0, none⟩) bel (Nat.lt_succ_self _)]; simp
  have d3 : w1.frozen? ⟨w.heap.size, 1, none⟩ = false := by rw [Below.frozen (p := ⟨w.heap.size, 1, none⟩) bel (Nat.lt_succ_self _)]; simp
  have B1 : Hid (Later w w1) := Lib.hid (((Later.refl w).alloc _).trans (show Later _ w1 from by rw [Later, World.size_alloc]; exact bel))
  clear src bel
  go_wp2_with fail
  refine (s_l10Draw (w.heap.size + 1) a len cap _ S1.out).mono ?_
  rintro e w2 ⟨Bt, v, l, rfl, hb, ho, h5, src, gr⟩
  obtain ⟨a2, c2, rfl, _, _⟩ := ho.sl
  have c0 := gr.cell d0 (by simp)
  have c1 := gr.cell d1 (by simp)
  have c2' : w2.frozen? ⟨w.heap.size, 0, none⟩ = false := by rw [World.frozen?_of_block (w := w1) (gr.block w.heap.size (by omega) (by simp))]; exact d2
  have c3 : w2.frozen? ⟨w.heap.size, 1, none⟩ = false := by rw [World.frozen?_of_block (w := w1) (gr.block w.heap.size (by omega) (by simp))]; exact d3
  have B2 : Hid (Later w w2) := Lib.hid (Below.grown B1.out gr B1.out.size (fun k e => by cases e; omega))
  have HO := Lib.hid ho
  have HB := Lib.hid hb
  clear ho gr src d0 d1 d2 d3 S1 hb
  go_wp2_with fail
  exact bodyPost_ret (v := .agg #[.int .i64 Bt, .slice a2 l.length c2]) (by simp [results, Try.results37, go_sem, *]) rfl ⟨Bt, _, l, rfl, HB.out, tf_mono (own_res HO.out (by omega)) (by omega), h5, put_res (Nat.le_refl _) B2.out⟩
theorem s_l10DrawTrain (B : Nat) (a : Option Addr) (len cap : Nat) (Bt : Int) (ax : Option Addr) (n cx : Nat) (w : World) (hs : Src w B a len cap) (hn : n ≤ 1000) :
    Calls Try.prog 102 #[.pointer (some ⟨B, 0, none⟩), .agg #[.int .i64 Bt, .slice ax n cx]] w (Drawn w B a len cap InR) := by
  have HS := Lib.hid hs
  have hBlt := hs.lt
  clear hs
  go_enter Try.func102, Try.ntmps102
  go_wp2_with fail
  have T0 := Lib.hid ((St.begin HS.out).box2 (.int .i64 Bt) (.slice ax n cx) 26)
  refine (s_Next B a len cap 16 _ T0.out.src (by omega) (by omega)).mono ?_
  rintro e w1 ⟨c, rfl, x0, x1, x2, src, gr⟩
  have T1 := Lib.hid (T0.out.call src gr)
  clear gr src x2 x1 T0
  obtain ⟨d0, _, d1, _⟩ := St.s2 T1.out
  by_cases c0 : c = 0
  · subst c0
    go_wp2_with fail
    have hl3 := sl_new w1 [-1, (n : Int)] 2 (by simp) (by intro x hx; simp at hx; unfold InR; omega)
    refine (s_Pick B a len cap ⟨w1.heap.size, 0, none⟩ 2 2 _ _ (T1.out.src.alloc _) hl3 (by have := T1.out.src.lt; show w1.heap.size ≠ B; omega) (by omega)).mono ?_
    rintro e w2 ⟨u, rfl, hu, src, gr⟩
    have T2 := Lib.hid ((T1.out.alloc _).call src gr)
    have HU : Hid (InR u) := Lib.hid (by simp at hu; unfold InR; omega)
    clear src gr hl3 hu
    go_wp2_with fail
    go_ret
    exact ⟨u, rfl, HU.out, T2.out.src, T2.out.grown⟩
  · have e0 : (c == 0) = false := by simpa using c0
    clear c0
    go_wp2_with fail
    refine (s_Next B a len cap n _ T1.out.src (by omega) (by omega)).mono ?_
    rintro e w2 ⟨u, rfl, u0, u1, u2, src, gr⟩
    have T2 := Lib.hid (T1.out.call src gr)
    have HU : Hid (InR u) := Lib.hid (by
      by_cases q : (1 : Int) < n
      · have := u1 q; unfold InR; omega
      · have := u2 (by omega); unfold InR; omega)
    clear src gr u1 u2
    go_wp2_with fail
    go_ret
    exact ⟨u, rfl, HU.out, T2.out.src, T2.out.grown⟩
end Go.Proofs.Ytdaihpkjnigjgaa
