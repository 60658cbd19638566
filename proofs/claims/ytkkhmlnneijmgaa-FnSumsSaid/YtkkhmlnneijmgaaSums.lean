/- The walk of the law of chapter 1 on sums and rising lists. -/
import Derived.Test.YtkkhmlnneijmgaaDrawL
import Derived.Test.YtkkhmlnneijmgaaLawN
import Derived.Laws.AppendOwnNone
namespace Go.Proofs.Ytkkhmlnneijmgaa
open Go.RowKit
set_option maxHeartbeats 2000000
set_option linter.unusedVariables false
set_option linter.unusedSimpArgs false
theorem sum_reverse (l : List Int) : l.reverse.sum = l.sum := by
  induction l with
  | nil => rfl
  | cons a l ih => rw [List.reverse_cons, List.sum_append, ih]; simp; omega
theorem sumErr_reverse (l : List Int) : sumErr l.reverse = sumErr l := by unfold sumErr; rw [sum_reverse, List.length_reverse, List.all_reverse]
theorem sumR_reverse (l : List Int) : sumR l.reverse = sumR l := by unfold sumR; rw [sumErr_reverse, sum_reverse]
theorem drop_reverse (l : List Int) (k : Nat) (h : k < l.length) : (l.drop k).reverse = (l.drop (k + 1)).reverse ++ [gx l k] := by
  rw [List.drop_eq_getElem_cons h, List.reverse_cons, gx_of l k h]
theorem ris_mono (l : List Int) (n : Int) (h : risB l n = true) : ∀ i, i < l.length → gx l 0 ≤ gx l i := by
  intro i
  induction i with
  | zero => intro _; omega
  | succ i ih =>
    intro hi
    have a := ih (by omega)
    have b := (okAt_split l n (i + 1)).1 ((risB_iff l n).1 h (i + 1) hi)
    have c : gx l i < gx l (i + 1) := b.1
    omega
theorem gx_append (l r : List Int) (i : Nat) (h : i < l.length) : gx (l ++ r) i = gx l i := by
  unfold gx; rw [List.getD_eq_getElem?_getD, List.getD_eq_getElem?_getD, List.getElem?_append_left h]
theorem gx_append_at (l r : List Int) (h : 0 < r.length) : gx (l ++ r) l.length = gx r 0 := by
  unfold gx; rw [List.getD_eq_getElem?_getD, List.getD_eq_getElem?_getD, List.getElem?_append_right (Nat.le_refl _), Nat.sub_self]
theorem ris_twice (l : List Int) (n : Int) (h : risB l n = true) (hl : 0 < l.length) : risB (l ++ l) n = false := by
  refine risB_no _ _ l.length (by simp; omega) (okAt_not _ _ _ ?_)
  intro hc
  obtain ⟨k, hk⟩ : ∃ k, l.length = k + 1 := ⟨l.length - 1, by omega⟩
  have m := ris_mono l n h k (by omega)
  have e : prev (l ++ l) l.length = gx l k := by rw [hk]; show gx (l ++ l) k = _; exact gx_append l l k (by omega)
  rw [e, gx_append_at l l hl] at hc
  omega
theorem Own.sl2 {w : World} {base : Nat} {a : Option Addr} {n cap : Nat} {l : List Int} (h : Own w base (.slice a n cap) l) (hn : l.length = n) : Sl w a n l ∧ (a = none → cap = 0) ∧ (∀ x, a = some x → base ≤ x.block ∧ x.block < w.heap.size) := by
  obtain ⟨h1, h2⟩ := h
  subst hn
  have hlt := h1.lt
  rcases h1.2 with ⟨he, h0⟩ | ⟨g, cap', cur, he, hb, hg, hnc, hcm, _⟩
  · simp only [Value.slice.injEq] at he
    obtain ⟨rfl, _, rfl⟩ := he
    exact ⟨⟨rfl, by omega, fun k hk => by omega, h2⟩, (fun _ => rfl), (fun x hx => by cases hx)⟩
  · simp only [Value.slice.injEq] at he
    obtain ⟨rfl, _, rfl⟩ := he
    unfold maxLen at hcm
    exact ⟨sl_of_row h1 rfl (by omega) h2, (fun hx => by cases hx), (fun x hx => by cases hx; exact hlt g rfl)⟩
theorem wpList_when {P : Program} {ops : Array Oper} {Q : Exit → Act → World → Prop} {a : Act} {w : World} {rest : List Oper} {o : Oper} (hw : Region.wanted o (yielded ops a.tmps) = true)
    (h : ∀ K : Act → World → Prop, (∀ a w, wpList P ops Q rest a w → K a w) → o.wp P a w K Q) : wpList P ops Q (o :: rest) a w :=
  wpList_step fun K hK => by rw [if_pos hw]; exact h K hK
theorem cells_of_sl {w : World} {x : Addr} {l : List Int} (h : Sl w (some x) l.length l) : ∀ j u, (l.map (Value.int .i64))[j]? = some u → w.cell? (x.add j) = some u := by
  intro j u hj
  have hjl : j < l.length := by
    rcases Nat.lt_or_ge j l.length with h | h
    · exact h
    · rw [List.getElem?_eq_none (by simpa using h)] at hj; cases hj
  obtain ⟨b, off, he, hc⟩ := h.at j hjl
  cases he
  rw [List.getElem?_map, List.getElem?_eq_getElem hjl] at hj
  simp at hj
  rw [Addr.add_lit, hc, gx_of l j hjl, ← hj]
/-- append(v, l2...): v of the call's own, l2 whatever can be read -/
theorem appAll {ops : Array Oper} {rest : List Oper} {o : Oper} {a : Act} {Q : Exit → Act → World → Prop} (s x : Operand)
    (ho : o.op = .call { callee := .builtin .append, args := #[s, x], argTypes := #[29, 29] })
    (base : Nat) (W : World) (v : Value) (l l2 : List Int) (sa : Option Addr) (cap : Nat) (hown : Own W base v l) (hsl : Sl W sa l2.length l2) (hnil : sa = none → cap = 0) (hw : Region.wanted o (yielded ops a.tmps) = true) (hs : a.eval s = v) (hx : a.eval x = .slice sa l2.length cap) (hl : l.length + l2.length ≤ 1000000000) (hbase : base ≤ W.heap.size)
    (h : ∀ v' w', Own w' base v' (l ++ l2) → W.grownBy w' v.ownBlock → wpList Try.prog ops Q rest (a.put o.dst v') w') : wpList Try.prog ops Q (o :: rest) a W := by
  obtain ⟨i0, hi, hz0, hz1, hz2⟩ := info_parts info_i64
  refine wpList_when hw fun K hK => ?_
  cases sa with
  | none =>
    have e : l2 = [] := by
      cases l2 with
      | nil => rfl
      | cons y l2 => obtain ⟨b, off, he, _⟩ := hsl.at 0 (by simp); cases he
    subst e
    have ec := hnil rfl
    subst ec
    have hrun := run_append_owned_none (P := Try.prog) (w := W) base 29 o.type 2 i0 1 Try.underlying29 hi v l.length (l.map (Value.int .i64)) hown.1
    unfold Oper.wp
    simp only [List.length_nil] at hx
    simp [execOp, ho, resolve, invoke, builtin, hs, hx, hrun, Result.andThen]
    exact hK _ _ (h v W (by simpa using hown) ⟨rfl, rfl, rfl, Nat.le_refl _, fun _ _ _ => rfl⟩)
  | some ad =>
    refine wp_append_own W s x _ ho base 2 i0 (.int .i64 0) 1 8 Try.underlying29 hi hz0 hz1 hz2 rfl (by decide) v l.length _ hs hown.1 ad l2.length cap (l2.map (Value.int .i64)) hx (by simp) (cells_of_sl hsl) ?_ (by unfold maxLen; omega) (by omega) hbase ?_
    · intro u hu
      rw [List.mem_map] at hu
      obtain ⟨y, _, rfl⟩ := hu
      rfl
    · intro v' w' h1 h2 _
      refine hK _ _ (h v' w' ⟨by simpa using h1, ?_⟩ h2)
      intro z hz
      rw [List.mem_append] at hz
      rcases hz with hz | hz
      · exact hown.2 z hz
      · exact hsl.2.2.2 z hz
theorem Sl.kept {w w' : World} {a : Option Addr} {n : Nat} {l : List Int} {row : Option Nat} (h : Sl w a n l) (hg : w.grownBy w' row) (hr : ∀ x, a = some x → some x.block ≠ row) : Sl w' a n l := by
  obtain ⟨h1, h2, h3, h4⟩ := h
  refine ⟨h1, h2, fun k hk => ?_, h4⟩
  obtain ⟨b, off, rfl, hc⟩ := h3 k hk
  exact ⟨b, off, rfl, hg.cell hc (hr ⟨b, off, none⟩ rfl)⟩
theorem i_SumOf_as (a : Option Addr) (n cap : Nat) (l : List Int) (x y : Int) (w : World) (hs : Sl w a n l) (hx : sumR l = x) (hy : sumErr l = y) :
    Calls Try.prog 22 #[.slice a n cap] w fun e w' => e = .returned (.tuple #[.int .i64 x, .int .i64 y]) ∧ w = w' := by
  rw [← hx, ← hy]; exact i_SumOf a n cap l w hs
theorem walk_FnSums (a0 : Option Addr) (len0 cap0 : Nat) (z0 : List Int) (w : World) (w0 : IsRow .u8 w a0 len0 cap0 z0) :
    Calls Try.prog 5 #[.slice a0 len0 cap0] w fun e w' => e = .returned (.bool true) ∧ Below w.heap.size w w' := by
  have hbs := isRow_bytes w0
  have HS := Lib.hid hbs
  clear w0
  by_cases hbig : 4096 < len0
  · clear hbs
    go_enter Try.func5, Try.ntmps5
    go_wp2_with fail
    refine (l_big _ _ _ _).mono ?_
    rintro e w' ⟨rfl, rfl⟩
    go_wp2
    go_ret
    exact ⟨rfl, Below.refl _ _⟩
  · clear hbs
    go_enter Try.func5, Try.ntmps5
    go_wp2_with fail
    refine (l_big _ _ _ _).mono ?_
    rintro e w' ⟨rfl, rfl⟩
    go_wp2_with fail
    refine (s_DrawSumOf _ _ _ _ HS.out).mono ?_
    rintro e w1 ⟨v, l, rfl, ho, hl, bel⟩
    obtain ⟨a1, c1, rfl, _, _⟩ := ho.sl
    obtain ⟨s1, _, hb1⟩ := ho.sl2 rfl
    have S1 := Lib.hid s1; have B1 := Lib.hid bel
    have HS1 : Hid (Bytes w1 a0 len0) := Lib.hid (by
      refine ⟨HS.out.1, fun k hk => ?_⟩
      obtain ⟨b, off, x, rfl, hc, x0, x1⟩ := HS.out.2 k hk
      exact ⟨b, off, x, rfl, by rw [bel.cell (p := ⟨b, off + k, none⟩) (cell_lt hc)]; exact hc, x0, x1⟩)
    clear ho s1 hb1 bel
    go_wp2_with fail
    refine (i_SumOf _ _ _ _ _ S1.out).mono ?_
    rintro e w' ⟨rfl, rfl⟩
    go_wp2_with fail
    refine (s_SumOf _ _ _ _ _ S1.out).mono ?_
    rintro e w' ⟨rfl, rfl⟩
    go_wp2_with fail
    refine (s_DrawIsRising _ _ _ _ HS1.out).mono ?_
    rintro e w2 ⟨a2, c2, up, n, rfl, ho, hup, hn, bel⟩
    obtain ⟨s2, hnil, hb2⟩ := ho.sl2 rfl
    have S1' := Lib.hid (sl_later S1.out bel)
    have B2 := Lib.hid (B1.out.trans (bel.mono B1.out.size))
    have S2 := Lib.hid s2
    have N2 := Lib.hid hnil
    have H2 : Hid (∀ x, a2 = some x → x.block < w2.heap.size) := Lib.hid (fun x hx => (hb2 x hx).2)
    clear ho s2 hnil hb2 bel S1 B1 HS1
    go_wp2_with fail
    refine (i_IsRising _ _ _ _ _ _ S2.out).mono ?_
    rintro e w' ⟨rfl, rfl⟩
    go_wp2_with fail
    refine (s_IsRising _ _ _ _ _ _ S2.out).mono ?_
    rintro e w' ⟨rfl, q, rfl⟩
    go_wp2_with fail
    have hn2 := S1'.out.2.1
    go_loopw [10, 11] (fun v i wr => ∃ k : Nat, k ≤ l.length ∧ i = .int .i64 ((k : Int) - 1) ∧ Own wr w2.heap.size v (l.drop k).reverse ∧ Below w2.heap.size w2 wr) (fun _ i _ => (intOf i + 1).toNat)
    case atStart =>
      refine ⟨l.length, Nat.le_refl _, rfl, ?_, (below_drewN (Below.refl _ _) q).alloc (Nat.le_refl _) _⟩
      rw [List.drop_length]
      exact own_new (w2.drewN q) _ (Nat.le_refl _)
    case round =>
      obtain ⟨k, hk, rfl, ho, hb⟩ := hrel
      have HO := Lib.hid ho; have HB := Lib.hid hb
      have S3 := Lib.hid (sl_later S1'.out hb)
      have hsz : w2.heap.size ≤ wr.heap.size := hb.size
      have hlen : (l.drop k).reverse.length ≤ 1000 := by simp; omega
      clear ho hb
      by_cases hk0 : 0 < k
      · obtain ⟨b, off, rfl, hc⟩ := S3.out.at (k - 1) (by omega)
        obtain ⟨g1, g2⟩ := S3.out.rng (k - 1) (by omega)
        have HD : Hid ((l.drop (k - 1)).reverse = (l.drop k).reverse ++ [gx l (k - 1)]) := Lib.hid (by
          have := drop_reverse l (k - 1) (by omega)
          rwa [show k - 1 + 1 = k by omega] at this)
        go_wp2_with (at_builtin; go_must (refine app1 rfl _ _ rfl w2.heap.size _ _ _ _ _ HO.out rfl rfl ⟨g1, g2⟩ (by omega) hsz ?_; intro v' w5 ho hg))
        have B5 := Lib.hid (HB.out.grown hg hsz (fun j hj => (HO.out.lt j hj).1))
        go_roundw
        case rel => exact ⟨k - 1, by omega, congrArg (Value.int .i64) (by omega), by rw [HD.out]; exact ho, B5.out⟩
        case measure => simp [intOf]; omega
      · obtain rfl : k = 0 := by omega
        have ho := HO.out
        rw [List.drop_zero] at ho
        obtain ⟨rv, hrv⟩ : ∃ rv, rv = l.reverse := ⟨_, rfl⟩
        rw [← hrv] at ho
        have R1 : Hid (sumR rv = sumR l) := Lib.hid (by rw [hrv]; exact sumR_reverse l)
        have R2 : Hid (sumErr rv = sumErr l) := Lib.hid (by rw [hrv]; exact sumErr_reverse l)
        clear hrv hlen
        obtain ⟨a5, c5, rfl, _, _⟩ := ho.sl
        obtain ⟨s5, _, _⟩ := ho.sl2 rfl
        have S5 := Lib.hid s5
        have S2' := Lib.hid (sl_later S2.out HB.out)
        have B5 := Lib.hid (B2.out.trans (HB.out.mono B2.out.size))
        clear HO s5 ho
        go_wp2_with fail
        refine (i_SumOf_as _ _ _ _ _ _ _ S5.out R1.out R2.out).mono ?_
        rintro e w' ⟨rfl, rfl⟩
        go_wp2_with fail
        refine (i_IsRising _ _ _ _ _ _ S2'.out).mono ?_
        rintro e w' ⟨rfl, rfl⟩
        by_cases hr : risB up n = true
        · have SA : Hid (Sl (wr.alloc (.cells #[] 2)) a2 up.length up) := Lib.hid (sl_later S2'.out ((Below.refl _ _).alloc (Nat.le_refl _) _))
          have tok1 : True := trivial
          go_wp2_with (first
            | (at_builtin; have _t := tok1; go_must (refine appAll _ _ rfl wr.heap.size _ _ [] up a2 c2 (own_new wr _ (Nat.le_refl _)) SA.out N2.out rfl rfl rfl (by simp; omega) (by simp) ?_); intro v1 wa ho1 hg1; clear tok1; have tok2 : True := trivial;
               have SB := Lib.hid (SA.out.kept hg1 (fun x hx => by have := H2.out x hx; simp [Value.ownBlock]; omega)); have O1 := Lib.hid ho1; have G1 := Lib.hid hg1; clear ho1 hg1)
            | (at_builtin; have _t := tok2; go_must (refine appAll _ _ rfl wr.heap.size _ _ ([] ++ up) up a2 c2 O1.out SB.out N2.out rfl rfl rfl (by simp; omega) (by have := G1.out.size; simp at this; omega) ?_); intro v2 wb ho2 hg2; clear tok2))
          obtain ⟨tw, htw⟩ : ∃ tw, tw = [] ++ up ++ up := ⟨_, rfl⟩
          have B6 := Lib.hid (((B5.out.alloc B5.out.size _).grown G1.out (by have := B5.out.size; simp; omega) (fun j hj => by have := B5.out.size; simp [Value.ownBlock] at hj; omega)).grown hg2 (by have h1 := B5.out.size; have h2 := G1.out.size; simp at h2; omega) (fun j hj => by have h1 := B5.out.size; have h2 := O1.out.lt j hj; omega))
          have HT : Hid (0 < up.length → risB tw n = false) := Lib.hid (fun h => by rw [htw]; exact ris_twice up n hr h)
          rw [← htw] at ho2
          clear htw hg2
          obtain ⟨a6, c6, rfl, _, _⟩ := ho2.sl
          obtain ⟨s6, _, _⟩ := ho2.sl2 rfl
          have S6 := Lib.hid s6
          clear s6 ho2
          refine (i_IsRising _ _ _ _ _ _ S6.out).mono ?_
          rintro e w' ⟨rfl, rfl⟩
          by_cases hu : 0 < up.length
          · have ht := HT.out hu
            go_wp2_with fail
            go_ret
            exact ⟨rfl, B6.out⟩
          · have hu0 : up.length = 0 := by omega
            have e0 : ((up.length : Int) == 0) = true := by simp [hu0]
            have HU := Lib.hid hu0
            clear hu hu0
            by_cases ht : risB tw n = true
            · go_wp2_with fail
              go_ret
              exact ⟨rfl, B6.out⟩
            · have ht : risB tw n = false := by simpa using ht
              go_wp2_with fail
              go_ret
              exact ⟨rfl, B6.out⟩
        · have hr : risB up n = false := by simpa using hr
          go_wp2_with fail
          go_ret
          exact ⟨rfl, B5.out⟩
end Go.Proofs.Ytkkhmlnneijmgaa
