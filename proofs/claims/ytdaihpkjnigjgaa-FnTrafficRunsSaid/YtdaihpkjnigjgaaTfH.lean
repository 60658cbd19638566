/- The draw of runs of moves (gen/gen_tfh.py). -/
import Derived.Test.YtdaihpkjnigjgaaTfG
namespace Go.Proofs.Ytdaihpkjnigjgaa
open Go.RowKit
set_option maxHeartbeats 4000000
set_option maxRecDepth 100000
set_option linter.unusedVariables false
set_option linter.unusedSimpArgs false
/-- a drawn traffic and drawn moves -/
def DrawnRM (w : World) (e : Ending) (w' : World) : Prop :=
  ∃ (Bt : Int) (ax : Option Addr) (n cx : Nat) (l : List Int) (v : Value) (ts : List Int), e = .returned (.tuple #[.agg #[.int .i64 Bt, .slice ax n cx], v]) ∧ Sl w' ax n l ∧ n ≤ 5 ∧ Own w' w.heap.size v ts ∧ ts.length ≤ 250 ∧ Later w w'
theorem sl_rowT' {w w' : World} {a : Option Addr} {n : Nat} {l : List Int} {row : Option Nat} (h : Sl w a n l) (hg : w.grownBy w' row) (hr : ∀ x, a = some x → row ≠ some x.block) : Sl w' a n l := by
  obtain ⟨h1, h2, h3, h4⟩ := h
  refine ⟨h1, h2, fun k hk => ?_, h4⟩
  obtain ⟨b, off, rfl, hc⟩ := h3 k hk
  exact ⟨b, off, rfl, hg.cell hc (fun e => hr _ rfl e.symm)⟩
theorem sl_rowT {w w' : World} {a : Option Addr} {n r : Nat} {l : List Int} (h : Sl w a n l) (hg : w.grownBy w' (some r)) (hr : ∀ x, a = some x → x.block ≠ r) : Sl w' a n l :=
  sl_rowT' h hg (fun x hx e => hr x hx (Option.some.inj e).symm)
theorem sl_resT {w : World} {a : Option Addr} {n R : Nat} {l : List Int} {u0 u1 : Value} (h : Sl w a n l) (hr : ∀ x, a = some x → x.block ≠ R) : Sl ((w.setCell ⟨R, 0, none⟩ u0).setCell ⟨R, 1, none⟩ u1) a n l :=
  sl_rowT (sl_rowT h (grown_set _ _ _ _) hr) (grown_set _ _ _ _) hr
theorem sl_rowN' {w w' : World} {a : Option Addr} {n : Nat} {l : List Int} {row : Option Nat} (h : Sl w a n l) (hg : w.grownBy w' row) (hr : ∀ x, a = some x → 0 < n → row ≠ some x.block) : Sl w' a n l := by
  obtain ⟨h1, h2, h3, h4⟩ := h
  refine ⟨h1, h2, fun k hk => ?_, h4⟩
  obtain ⟨b, off, rfl, hc⟩ := h3 k hk
  exact ⟨b, off, rfl, hg.cell hc (fun e => hr _ rfl (by omega) e.symm)⟩
theorem sl_rowN {w w' : World} {a : Option Addr} {n r : Nat} {l : List Int} (h : Sl w a n l) (hg : w.grownBy w' (some r)) (hr : ∀ x, a = some x → 0 < n → x.block ≠ r) : Sl w' a n l :=
  sl_rowN' h hg (fun x hx hn e => hr x hx hn (Option.some.inj e).symm)
theorem sl_blk {w : World} {a : Option Addr} {n : Nat} {l : List Int} (h : Sl w a n l) {x : Addr} (hx : a = some x) (hn : 0 < n) : x.block < w.heap.size := by
  obtain ⟨b, off, e, hc⟩ := h.at 0 hn
  rw [hx] at e; cases e
  exact cell_lt hc
theorem own_keptM {w w' : World} {base : Nat} {v : Value} {l : List Int} {row : Option Nat} (h : Own w base v l) (hg : w.grownBy w' row) (hr : ∀ k, v.ownBlock = some k → row ≠ some k) : Own w' base v l := by
  refine ⟨h.1.kept hg ?_, h.2⟩
  cases hv : v.ownBlock with
  | none => exact .inl rfl
  | some k => exact .inr (fun e => hr k hv e.symm)
theorem own_slM {w : World} {base n cap : Nat} {a : Option Addr} {l : List Int} (h : Own w base (.slice a n cap) l) : Sl w a n l := by
  obtain ⟨a', c', e, s, _⟩ := h.sl
  cases e; exact s
set_option maxRecDepth 100000 in
theorem s_DrawRunMoves (a : Option Addr) (len cap : Nat) (w : World) (hs : Bytes w a len) :
    Calls Try.prog 42 #[.slice a len cap] w (DrawnRM w) := by
  have HS := Lib.hid hs
  clear hs
  go_enter Try.func42, Try.ntmps42
  go_wp2_with fail
  refine (s_From a len cap _ (HS.out.later ((Below.refl _ _).alloc (Nat.le_refl _) _))).mono ?_
  rintro e w1 ⟨rfl, src, lt, bel⟩
  rw [World.size_alloc] at src lt bel ⊢
  have S1 := Lib.hid src
  have d0 : w1.cell? ⟨w.heap.size, 0, none⟩ = some (.int .i64 0) := by rw [bel.cell (p := ⟨w.heap.size, 0, none⟩) (Nat.lt_succ_self _)]; simp
  have d1 : w1.cell? ⟨w.heap.size, 1, none⟩ = some (.slice none 0 0) := by rw [bel.cell (p := ⟨w.heap.size, 1, none⟩) (Nat.lt_succ_self _)]; simp
  have d2 : w1.frozen? ⟨w.heap.size, 0, none⟩ = false := by rw [Below.frozen (p := ⟨w.heap.size, 0, none⟩) bel (Nat.lt_succ_self _)]; simp
  have d3 : w1.frozen? ⟨w.heap.size, 1, none⟩ = false := by rw [Below.frozen (p := ⟨w.heap.size, 1, none⟩) bel (Nat.lt_succ_self _)]; simp
  have B1 : Hid (Later w w1) := Lib.hid (((Later.refl w).alloc _).trans (show Later _ w1 from by rw [Later, World.size_alloc]; exact bel))
  have KR : Hid (∀ W, w1.grownBy W (some (w.heap.size + 1)) → W.cell? ⟨w.heap.size, 0, none⟩ = some (.int .i64 0) ∧ W.cell? ⟨w.heap.size, 1, none⟩ = some (.slice none 0 0) ∧ W.frozen? ⟨w.heap.size, 0, none⟩ = false ∧ W.frozen? ⟨w.heap.size, 1, none⟩ = false) := Lib.hid (fun W gr => ⟨gr.cell d0 (by simp), gr.cell d1 (by simp), by rw [World.frozen?_of_block (w := w1) (gr.block w.heap.size (by omega) (by simp))]; exact d2, by rw [World.frozen?_of_block (w := w1) (gr.block w.heap.size (by omega) (by simp))]; exact d3⟩)
  have KL : Hid (∀ W, w1.grownBy W (some (w.heap.size + 1)) → Later w W) := Lib.hid (fun W gr => Below.grown B1.out gr B1.out.size (fun k e => by cases e; omega))
  clear src bel d0 d1 d2 d3
  go_wp2_with fail
  refine (s_l10Draw (w.heap.size + 1) a len cap _ S1.out).mono ?_
  rintro e w2 ⟨Bt, v, l, rfl, hb, ho, h5, src, gr⟩
  have ha := ho.lt
  obtain ⟨a2, c2, rfl, hsl, _⟩ := ho.sl
  have hz2 := gr.size
  have HA : Hid (∀ x, a2 = some x → w1.heap.size ≤ x.block ∧ x.block < w2.heap.size) := Lib.hid (fun x hx => by subst hx; exact ha x.block rfl)
  have SX2 := Lib.hid hsl
  have T2 := Lib.hid ((St.begin S1.out).call src gr)
  clear ho gr src hb ha hsl
  go_wp2_with fail
  have T3 := Lib.hid (((T2.out.box2 (.int .i64 Bt) (.slice a2 l.length c2) 26).alloc (.cells #[] 2)).box2 (.int .i64 Bt) (.slice a2 l.length c2) 26)
  have O3 : Hid (Own (((w2.alloc (.cells #[.int .i64 Bt, .slice a2 l.length c2] 26)).alloc (.cells #[] 2)).alloc (.cells #[.int .i64 Bt, .slice a2 l.length c2] 26)) (w2.heap.size + 1) (.slice (some ⟨w2.heap.size + 1, 0, none⟩) 0 0) []) := Lib.hid ((by have := own_new (w2.alloc (.cells #[.int .i64 Bt, .slice a2 l.length c2] 26)) (w2.heap.size + 1) (by simp); simpa using this : Own ((w2.alloc (.cells #[.int .i64 Bt, .slice a2 l.length c2] 26)).alloc (.cells #[] 2)) (w2.heap.size + 1) (.slice (some ⟨w2.heap.size + 1, 0, none⟩) 0 0) []).alloc _)
  have SX3 : Hid (Sl (((w2.alloc (.cells #[.int .i64 Bt, .slice a2 l.length c2] 26)).alloc (.cells #[] 2)).alloc (.cells #[.int .i64 Bt, .slice a2 l.length c2] 26)) a2 l.length l) := Lib.hid (sl_later SX2.out (((Later.refl w2).alloc _ |>.alloc _).alloc _))
  refine (s_Next (w.heap.size + 1) a len cap 14 _ T3.out.src (by omega) (by omega)).mono ?_
  rintro e w4 ⟨n0, rfl, n00, n01, n02, src, gr⟩
  have hn0 := n01 (by omega)
  have T4 := Lib.hid (T3.out.call src gr)
  have O4 := Lib.hid (O3.out.kept gr (by intro k hk; cases hk; omega))
  have SX4 := Lib.hid (sl_rowT SX3.out gr (fun x hx => by have := (HA.out x hx).1; omega))
  obtain ⟨nn0, rfl⟩ := Int.eq_ofNat_of_zero_le n00
  simp only [World.size_alloc] at T4
  clear gr src n01 n02 n00 T3 O3 SX3 T2 SX2
  go_wp2_with fail
  go_loopw [6, 8] (fun v k' wr => ∃ (ts : List Int) (k : Nat) (an : Option Addr) (nn cn : Nat) (ln : List Int), k' = .int .i64 k ∧ ts.length + k ≤ 13 ∧ Own wr (w2.heap.size + 1) v ts ∧ (∀ q, v.ownBlock = some q → q ≠ w2.heap.size + 1 + 1) ∧ St [(w2.heap.size + 1 + 1, 0, .int .i64 Bt), (w2.heap.size + 1 + 1, 1, .slice an nn cn), (w2.heap.size, 0, .int .i64 Bt), (w2.heap.size, 1, .slice a2 l.length c2)] (w.heap.size + 1) a len cap w1 wr ∧ Sl wr a2 l.length l ∧ Sl wr an nn ln ∧ (∀ x, an = some x → 0 < nn → w1.heap.size ≤ x.block ∧ v.ownBlock ≠ some x.block)) (fun _ k' _ => (intOf k').toNat)
  case atStart => exact ⟨[], nn0, a2, l.length, c2, l, rfl, by simp; omega, O4.out, fun q e => by have e := Option.some.inj e; simp only [] at e; omega, T4.out, SX4.out, SX4.out, fun x hx hn => ⟨(HA.out x hx).1, fun e => by have := (HA.out x hx).2; have e := Option.some.inj e; simp only [] at e; omega⟩⟩
  case round =>
    clear T4 O4 SX4
    obtain ⟨ts, k, an, nn, cn', ln, rfl, hlen, ho, hnb, ht, hsx, hsn, hna⟩ := hrel
    have T4 := Lib.hid ht; have O4 := Lib.hid ho; have SX4 := Lib.hid hsx; have SN4 := Lib.hid hsn; have HNB := Lib.hid hnb; have NAN := Lib.hid hna
    clear ho hnb ht hsx hsn hna
    by_cases hk : 0 < k
    · obtain ⟨c0, _, c1, _, c2', _, c3, _⟩ := St.s4 T4.out
      go_wp2_with fail
      refine (s_l10DrawTrain (w.heap.size + 1) a len cap Bt a2 l.length c2 _ T4.out.src (by omega)).mono ?_
      rintro e w5 ⟨t, rfl, ht, src, gr⟩
      have T5 := Lib.hid (T4.out.call src gr)
      have O5 := Lib.hid (O4.out.kept gr (by intro k hk; cases hk; omega))
      have SX5 := Lib.hid (sl_rowT SX4.out gr (fun x hx => by have := (HA.out x hx).1; omega))
      have SN5 := Lib.hid (sl_rowN SN4.out gr (fun x hx hn => by have := (NAN.out x hx hn).1; omega))
      have HT := Lib.hid ht
      clear gr src T4 O4 SX4 SN4 c0 c1 c2' c3 ht
      obtain ⟨c0, _, c1, _, c2', _, c3, _⟩ := St.s4 T5.out
      go_wp2_with fail
      refine (s_IsSafeTraffic _ _ _ _ _ _ SN5.out).mono ?_
      rintro e w6 ⟨rfl, hl⟩
      have T6 := Lib.hid (T5.out.later hl)
      have O6 := Lib.hid (tf_lat O5.out hl)
      have SX6 := Lib.hid (sl_later SX5.out hl)
      have SN6 := Lib.hid (sl_later SN5.out hl)
      have hz6 : w2.heap.size + 1 + 1 < w6.heap.size := (T6.out.szl (w2.heap.size + 1 + 1) 0 (.int .i64 Bt) (by simp)).2
      clear hl T5 O5 SX5 SN5 c0 c1 c2' c3
      obtain ⟨c0, _, c1, _, c2', _, c3, _⟩ := St.s4 T6.out
      cases hf : sfB Bt ln
      · have NLT : Hid (∀ x, an = some x → 0 < nn → x.block < w6.heap.size) := Lib.hid (fun x hx hn => sl_blk SN6.out hx hn)
        go_wp2_with (at_builtin; go_must (refine app1At rfl _ _ rfl (w2.heap.size + 1) _ _ _ _ _ O6.out rfl _ rfl (by first | rfl | simp) HT.out (by omega) (by omega) ?_; intro v' wz ho hg hat; have OZ := Lib.hid ho; have TZ := Lib.hid (T6.out.ownO hg (fun q e => ⟨by have := (O6.out.lt q e).1; omega, fun x hx => by have := (O6.out.lt q e).1; have := HNB.out q e; simp at hx; rcases hx with rfl | rfl | rfl | rfl <;> (first | (show w2.heap.size + 1 + 1 ≠ q; omega) | (show w2.heap.size ≠ q; omega))⟩)); have SXZ := Lib.hid (sl_rowT' SX6.out hg (fun x hx e => by have := (O6.out.lt _ e).1; have := (HA.out x hx).2; omega)); have SNZ := Lib.hid (sl_rowN' SN6.out hg (fun x hx hn e => (NAN.out x hx hn).2 e)); have NBZ : Hid (∀ q, v'.ownBlock = some q → q ≠ w2.heap.size + 1 + 1) := Lib.hid (fun q e => by rcases hat with h | h <;> rw [h] at e; exact HNB.out q e; have e := Option.some.inj e; omega); have NAZ : Hid (∀ x, an = some x → 0 < nn → w1.heap.size ≤ x.block ∧ v'.ownBlock ≠ some x.block) := Lib.hid (fun x hx hn => ⟨(NAN.out x hx hn).1, fun e => by rcases hat with h | h <;> rw [h] at e; exact (NAN.out x hx hn).2 e; have e := Option.some.inj e; have := (NLT.out x hx hn); omega⟩); clear ho hg hat))
        go_roundw
        case rel => exact ⟨ts ++ [t], k - 1, an, nn, cn', ln, congrArg (Value.int .i64) (by omega), by simp; omega, OZ.out, NBZ.out, TZ.out, SXZ.out, SNZ.out, NAZ.out⟩
        case measure => simp [intOf]; omega
      · go_wp2_with fail
        refine (s_Next (w.heap.size + 1) a len cap 16 _ T6.out.src (by omega) (by omega)).mono ?_
        rintro e w7 ⟨r, rfl, r0, r1, r2, src, gr⟩
        have T7 := Lib.hid (T6.out.call src gr)
        have O7 := Lib.hid (O6.out.kept gr (by intro k hk; cases hk; omega))
        have SX7 := Lib.hid (sl_rowT SX6.out gr (fun x hx => by have := (HA.out x hx).1; omega))
        have SN7 := Lib.hid (sl_rowN SN6.out gr (fun x hx hn => by have := (NAN.out x hx hn).1; omega))
        have hz7 : w2.heap.size + 1 + 1 < w7.heap.size := Nat.lt_of_lt_of_le hz6 gr.size
        clear gr src r1 r2 T6 O6 SX6 SN6 c0 c1 c2' c3
        obtain ⟨c0, _, c1, _, c2', _, c3, _⟩ := St.s4 T7.out
        by_cases hr : 0 < r
        · go_wp2_with fail
          refine (s_l10Allowed _ _ _ _ _ _ SN7.out (sfB_tf hf)).mono ?_
          rintro e w8 ⟨vA, rfl, hoa, hl⟩
          have hn4 := ((tfB_iff Bt ln).1 (sfB_tf hf)).2.2.2.1
          have hln := SN7.out.1
          have hal := alL_len Bt ln ln.length
          have T8 := Lib.hid (T7.out.later hl)
          have O8 := Lib.hid (tf_lat O7.out hl)
          have SX8 := Lib.hid (sl_later SX7.out hl)
          have SN8 := Lib.hid (sl_later SN7.out hl)
          have hz8 : w2.heap.size + 1 + 1 < w8.heap.size := Nat.lt_of_lt_of_le hz7 (Later.size (show Later w7 w8 from hl))
          obtain ⟨AL, hAL⟩ : ∃ AL, AL = alL Bt ln ln.length := ⟨_, rfl⟩
          have HAL := Lib.hid hAL
          rw [← hAL] at hoa hal
          have OA := Lib.hid hoa
          have bA := hoa.lt
          have hw78 : w1.heap.size ≤ w7.heap.size := T7.out.le
          clear hl T7 O7 SX7 SN7 c0 c1 c2' c3 hoa hAL
          obtain ⟨c0, _, c1, _, c2', _, c3, _⟩ := St.s4 T8.out
          by_cases hA0 : AL.length = 0
          · obtain ⟨aA, cA, eA, _, _⟩ := OA.out.sl
            subst eA
            go_wp2_with fail
            refine (s_Next (w.heap.size + 1) a len cap 60 _ T8.out.src (by omega) (by omega)).mono ?_
            rintro e wf ⟨cf, rfl, cf0, cf1, cf2, src, gr⟩
            have TF := Lib.hid (T8.out.call src gr)
            have OF := Lib.hid (O8.out.kept gr (by intro k hk; cases hk; omega))
            have SF := Lib.hid (sl_rowT SX8.out gr (fun x hx => by have := (HA.out x hx).1; omega))
            clear gr src cf1 cf2
            by_cases q0 : cf = 0
            · subst q0
              go_wp2_with fail
              refine (s_Next (w.heap.size + 1) a len cap 2 _ TF.out.src (by omega) (by omega)).mono ?_
              rintro e wg ⟨yg, rfl, yg0, yg1, yg2, src, gr⟩
              have TG := Lib.hid (TF.out.call src gr)
              have hyg := yg1 (by omega)
              have SG := Lib.hid (sl_rowT SF.out gr (fun x hx => by have := (HA.out x hx).1; omega))
              have hzg : w.heap.size ≤ wg.heap.size := by have := TG.out.le; omega
              clear gr src yg1 yg2
              obtain ⟨m, rfl⟩ := Int.eq_ofNat_of_zero_le yg0
              obtain ⟨i0, hi, hz0, hz1, hz2⟩ := info_parts info_i64
              have HI := Lib.hid hi; clear hi
              have HZ0 := Lib.hid hz0; clear hz0
              have HZ1 := Lib.hid hz1; clear hz1
              have HZ2 := Lib.hid hz2; clear hz2
              have hzg1 : w.heap.size + 1 ≤ wg.heap.size := by have := TG.out.le; omega
              go_wp2_with (refine wpList_make_full _ rfl _ _ _ rfl (w.heap.size + 1) 2 i0 (.int .i64 0) 1 Try.underlying24 HI.out HZ0.out HZ1.out _ _ _ _ (200 + m) rfl rfl (by omega) (by omega) (by rw [HZ2.out]; omega) (by unfold maxLen; omega) hzg1 ?_; intro wh hown hgrow; have OH := Lib.hid (madeT_own hzg1 hown); have TH := Lib.hid (TG.out.ownO hgrow (fun k e => by cases e)); have SH := Lib.hid (sl_later SG.out (⟨hgrow.os, hgrow.tape, hgrow.output, hgrow.size, fun i hi => hgrow.block i hi (by simp)⟩ : Later wg wh)); clear hown hgrow; obtain ⟨d0, _, d1, _, e0', _, e1', _⟩ := St.s4 TH.out; obtain ⟨r0, r1, r2, r3⟩ := KR.out wh TH.out.grown)
              exact bodyPost_ret (v := .tuple #[.agg #[.int .i64 Bt, .slice a2 l.length c2], .slice (some ⟨wg.heap.size, 0, none⟩) (200 + m) (200 + m)]) (by simp [results, Try.results42, go_sem, *]) rfl ⟨Bt, a2, l.length, c2, l, _, List.replicate (200 + m) 0, rfl, sl_resT SH.out (fun x hx => by have := (HA.out x hx).1; omega), h5, tf_mono (own_res OH.out (by omega)) (by omega), by simp; omega, put_res (Nat.le_refl _) (KL.out _ TH.out.grown)⟩
            · have e0 : (cf == 0) = false := by simpa using q0
              obtain ⟨d0, _, d1, _, e0', _, e1', _⟩ := St.s4 TF.out
              obtain ⟨r0, r1, r2, r3⟩ := KR.out wf TF.out.grown
              obtain ⟨ao, co, eo, _, _⟩ := OF.out.sl
              subst eo
              go_wp2_with fail
              exact bodyPost_ret (v := .tuple #[.agg #[.int .i64 Bt, .slice a2 l.length c2], .slice ao ts.length co]) (by simp [results, Try.results42, go_sem, *]) rfl ⟨Bt, a2, l.length, c2, l, _, ts, rfl, sl_resT SF.out (fun x hx => by have := (HA.out x hx).1; omega), h5, tf_mono (own_res OF.out (by omega)) (by omega), by omega, put_res (Nat.le_refl _) (KL.out _ TF.out.grown)⟩
          · obtain ⟨gA, cA, eA⟩ := own_some OA.out rfl (by omega)
            subst eA
            go_wp2_with fail
            refine (s_Next (w.heap.size + 1) a len cap (AL.length : Int) _ T8.out.src (by omega) (by omega)).mono ?_
            rintro e w9 ⟨j, rfl, j0, j1, j2, src, gr⟩
            have hj : j < (AL.length : Int) := by
              by_cases q : (1 : Int) < (AL.length : Int)
              · exact j1 q
              · have := j2 (by omega); omega
            have T9 := Lib.hid (T8.out.call src gr)
            have O9 := Lib.hid (O8.out.kept gr (by intro k hk; cases hk; omega))
            have SX9 := Lib.hid (sl_rowT SX8.out gr (fun x hx => by have := (HA.out x hx).1; omega))
            have SN9 := Lib.hid (sl_rowN SN8.out gr (fun x hx hn => by have := (NAN.out x hx hn).1; omega))
            have hbA := (bA gA rfl).1
            have OA9 := Lib.hid (OA.out.kept gr (by intro k hk; cases hk; omega))
            have hz9 : w2.heap.size + 1 + 1 < w9.heap.size := Nat.lt_of_lt_of_le hz8 gr.size
            obtain ⟨jn, rfl⟩ := Int.eq_ofNat_of_zero_le j0
            have hjn : jn < AL.length := by omega
            obtain ⟨m, hm, hmx, hms⟩ := (alL_mem Bt ln ln.length (gx AL jn)).1 (by rw [← HAL.out]; exact gx_mem AL jn hjn)
            obtain ⟨y1, y2⟩ := own_at OA9.out rfl jn hjn
            rw [← hmx] at y1
            have hmn : m < nn := by omega
            clear gr src j1 j2 T8 O8 SX8 SN8 c0 c1 c2' c3 hmx hms OA bA
            obtain ⟨c0, f0, c1, f1, c2', _, c3, _⟩ := St.s4 T9.out
            go_wp2_with fail
            refine (s_l10Move _ _ _ _ _ _ _ SN9.out hmn (sfB_tf hf)).mono ?_
            rintro e w10 ⟨vM, rfl, hom, hl⟩
            have T10 := Lib.hid (T9.out.later hl)
            have O10 := Lib.hid (tf_lat O9.out hl)
            have SX10 := Lib.hid (sl_later SX9.out hl)
            have bM := hom.lt
            have hO9 := O9.out.lt
            have hz10 : w2.heap.size + 1 + 1 < w10.heap.size := Nat.lt_of_lt_of_le hz9 (Later.size (show Later w9 w10 from hl))
            have hw9 : w1.heap.size ≤ w9.heap.size := T9.out.le
            have hN9 : w2.heap.size + 1 + 1 < w9.heap.size := (T9.out.szl (w2.heap.size + 1 + 1) 0 (.int .i64 Bt) (by simp)).2
            obtain ⟨gM, cM, eM⟩ := own_some (n := nn) hom (by rw [mvL_len]; exact hln) (by omega)
            subst eM
            have hbM := bM gM rfl
            have SM := Lib.hid (own_slM hom)
            have T11 := Lib.hid (St.store2 (u0 := .int .i64 Bt) (u1 := .slice (some ⟨gM, 0, none⟩) nn cM) T10.out (by intro x hx; simp at hx; rcases hx with rfl | rfl <;> (show w2.heap.size ≠ w2.heap.size + 1 + 1; omega)))
            have O11 := Lib.hid (own_keptM (own_keptM O10.out (grown_set w10 (w2.heap.size + 1 + 1) 0 (.int .i64 Bt)) (fun q e h => HNB.out q e (Option.some.inj h).symm)) (grown_set _ (w2.heap.size + 1 + 1) 1 (.slice (some ⟨gM, 0, none⟩) nn cM)) (fun q e h => HNB.out q e (Option.some.inj h).symm))
            have SX11 := Lib.hid (sl_resT (R := w2.heap.size + 1 + 1) (u0 := .int .i64 Bt) (u1 := .slice (some ⟨gM, 0, none⟩) nn cM) SX10.out (fun x hx => by have := (HA.out x hx).2; omega))
            have SN11 := Lib.hid (sl_resT (R := w2.heap.size + 1 + 1) (u0 := .int .i64 Bt) (u1 := .slice (some ⟨gM, 0, none⟩) nn cM) SM.out (fun x hx => by cases hx; show gM ≠ _; omega))
            have NAN2 : Hid (∀ x : Addr, (some (⟨gM, 0, none⟩ : Addr)) = some x → 0 < nn → w1.heap.size ≤ x.block ∧ u6.ownBlock ≠ some x.block) := Lib.hid (fun x hx hn => by cases hx; exact ⟨by show w1.heap.size ≤ gM; omega, fun e => by have := (hO9 gM e).2; omega⟩)
            have hz11 : w2.heap.size + 1 + 1 < ((w10.setCell ⟨w2.heap.size + 1 + 1, 0, none⟩ (.int .i64 Bt)).setCell ⟨w2.heap.size + 1 + 1, 1, none⟩ (.slice (some ⟨gM, 0, none⟩) nn cM)).heap.size := by simpa using hz10
            clear NAN
            have NAN := NAN2
            clear NAN2 c0 c1 c2' c3 f0 f1
            obtain ⟨c0, f0, c1, f1, _⟩ := St.s4 T10.out
            have NLT : Hid (∀ x : Addr, (some (⟨gM, 0, none⟩ : Addr)) = some x → 0 < nn → x.block < ((w10.setCell ⟨w2.heap.size + 1 + 1, 0, none⟩ (.int .i64 Bt)).setCell ⟨w2.heap.size + 1 + 1, 1, none⟩ (.slice (some ⟨gM, 0, none⟩) nn cM)).heap.size) := Lib.hid (fun x hx hn => sl_blk SN11.out hx hn)
            clear hom hl bM T9 O9 SX9 SN9 T10 O10 SX10
            go_wp2_with (at_builtin; go_must (refine app1At rfl _ _ rfl (w2.heap.size + 1) _ _ _ _ _ O11.out rfl _ rfl (by first | rfl | simp) ⟨by omega, by omega⟩ (by omega) (by omega) ?_; intro v' wz ho hg hat; have OZ := Lib.hid ho; have TZ := Lib.hid (T11.out.ownO hg (fun q e => ⟨by have := (O11.out.lt q e).1; omega, fun x hx => by have := (O11.out.lt q e).1; have := HNB.out q e; simp at hx; rcases hx with rfl | rfl | rfl | rfl <;> (first | (show w2.heap.size + 1 + 1 ≠ q; omega) | (show w2.heap.size ≠ q; omega))⟩)); have SXZ := Lib.hid (sl_rowT' SX11.out hg (fun x hx e => by have := (O11.out.lt _ e).1; have := (HA.out x hx).2; omega)); have SNZ := Lib.hid (sl_rowN' SN11.out hg (fun x hx hn e => (NAN.out x hx hn).2 e)); have NBZ : Hid (∀ q, v'.ownBlock = some q → q ≠ w2.heap.size + 1 + 1) := Lib.hid (fun q e => by rcases hat with h | h <;> rw [h] at e; exact HNB.out q e; have e := Option.some.inj e; omega); have NAZ : Hid (∀ x, some (⟨gM, 0, none⟩ : Addr) = some x → 0 < nn → w1.heap.size ≤ x.block ∧ v'.ownBlock ≠ some x.block) := Lib.hid (fun x hx hn => ⟨(NAN.out x hx hn).1, fun e => by rcases hat with h | h <;> rw [h] at e; exact (NAN.out x hx hn).2 e; have e := Option.some.inj e; have := (NLT.out x hx hn); omega⟩); clear ho hg hat))
            go_roundw
            case rel => exact ⟨ts ++ [(m : Int)], k - 1, some (⟨gM, 0, none⟩ : Addr), nn, cM, (mvL Bt ln m), congrArg (Value.int .i64) (by omega), by simp; omega, OZ.out, NBZ.out, TZ.out, SXZ.out, SNZ.out, NAZ.out⟩
            case measure => simp [intOf]; omega
        · have NLT : Hid (∀ x, an = some x → 0 < nn → x.block < w7.heap.size) := Lib.hid (fun x hx hn => sl_blk SN7.out hx hn)
          obtain rfl : r = 0 := by omega
          go_wp2_with (at_builtin; go_must (refine app1At rfl _ _ rfl (w2.heap.size + 1) _ _ _ _ _ O7.out rfl _ rfl (by first | rfl | simp) HT.out (by omega) (by omega) ?_; intro v' wz ho hg hat; have OZ := Lib.hid ho; have TZ := Lib.hid (T7.out.ownO hg (fun q e => ⟨by have := (O7.out.lt q e).1; omega, fun x hx => by have := (O7.out.lt q e).1; have := HNB.out q e; simp at hx; rcases hx with rfl | rfl | rfl | rfl <;> (first | (show w2.heap.size + 1 + 1 ≠ q; omega) | (show w2.heap.size ≠ q; omega))⟩)); have SXZ := Lib.hid (sl_rowT' SX7.out hg (fun x hx e => by have := (O7.out.lt _ e).1; have := (HA.out x hx).2; omega)); have SNZ := Lib.hid (sl_rowN' SN7.out hg (fun x hx hn e => (NAN.out x hx hn).2 e)); have NBZ : Hid (∀ q, v'.ownBlock = some q → q ≠ w2.heap.size + 1 + 1) := Lib.hid (fun q e => by rcases hat with h | h <;> rw [h] at e; exact HNB.out q e; have e := Option.some.inj e; omega); have NAZ : Hid (∀ x, an = some x → 0 < nn → w1.heap.size ≤ x.block ∧ v'.ownBlock ≠ some x.block) := Lib.hid (fun x hx hn => ⟨(NAN.out x hx hn).1, fun e => by rcases hat with h | h <;> rw [h] at e; exact (NAN.out x hx hn).2 e; have e := Option.some.inj e; have := (NLT.out x hx hn); omega⟩); clear ho hg hat))
          go_roundw
          case rel => exact ⟨ts ++ [t], k - 1, an, nn, cn', ln, congrArg (Value.int .i64) (by omega), by simp; omega, OZ.out, NBZ.out, TZ.out, SXZ.out, SNZ.out, NAZ.out⟩
          case measure => simp [intOf]; omega
    · obtain rfl : k = 0 := by omega
      go_wp2_with fail
      refine (s_Next (w.heap.size + 1) a len cap 60 _ T4.out.src (by omega) (by omega)).mono ?_
      rintro e wf ⟨cf, rfl, cf0, cf1, cf2, src, gr⟩
      have TF := Lib.hid (T4.out.call src gr)
      have OF := Lib.hid (O4.out.kept gr (by intro k hk; cases hk; omega))
      have SF := Lib.hid (sl_rowT SX4.out gr (fun x hx => by have := (HA.out x hx).1; omega))
      clear gr src cf1 cf2
      by_cases q0 : cf = 0
      · subst q0
        go_wp2_with fail
        refine (s_Next (w.heap.size + 1) a len cap 2 _ TF.out.src (by omega) (by omega)).mono ?_
        rintro e wg ⟨yg, rfl, yg0, yg1, yg2, src, gr⟩
        have TG := Lib.hid (TF.out.call src gr)
        have hyg := yg1 (by omega)
        have SG := Lib.hid (sl_rowT SF.out gr (fun x hx => by have := (HA.out x hx).1; omega))
        have hzg : w.heap.size ≤ wg.heap.size := by have := TG.out.le; omega
        clear gr src yg1 yg2
        obtain ⟨m, rfl⟩ := Int.eq_ofNat_of_zero_le yg0
        obtain ⟨i0, hi, hz0, hz1, hz2⟩ := info_parts info_i64
        have HI := Lib.hid hi; clear hi
        have HZ0 := Lib.hid hz0; clear hz0
        have HZ1 := Lib.hid hz1; clear hz1
        have HZ2 := Lib.hid hz2; clear hz2
        have hzg1 : w.heap.size + 1 ≤ wg.heap.size := by have := TG.out.le; omega
        go_wp2_with (refine wpList_make_full _ rfl _ _ _ rfl (w.heap.size + 1) 2 i0 (.int .i64 0) 1 Try.underlying24 HI.out HZ0.out HZ1.out _ _ _ _ (200 + m) rfl rfl (by omega) (by omega) (by rw [HZ2.out]; omega) (by unfold maxLen; omega) hzg1 ?_; intro wh hown hgrow; have OH := Lib.hid (madeT_own hzg1 hown); have TH := Lib.hid (TG.out.ownO hgrow (fun k e => by cases e)); have SH := Lib.hid (sl_later SG.out (⟨hgrow.os, hgrow.tape, hgrow.output, hgrow.size, fun i hi => hgrow.block i hi (by simp)⟩ : Later wg wh)); clear hown hgrow; obtain ⟨d0, _, d1, _, e0', _, e1', _⟩ := St.s4 TH.out; obtain ⟨r0, r1, r2, r3⟩ := KR.out wh TH.out.grown)
        exact bodyPost_ret (v := .tuple #[.agg #[.int .i64 Bt, .slice a2 l.length c2], .slice (some ⟨wg.heap.size, 0, none⟩) (200 + m) (200 + m)]) (by simp [results, Try.results42, go_sem, *]) rfl ⟨Bt, a2, l.length, c2, l, _, List.replicate (200 + m) 0, rfl, sl_resT SH.out (fun x hx => by have := (HA.out x hx).1; omega), h5, tf_mono (own_res OH.out (by omega)) (by omega), by simp; omega, put_res (Nat.le_refl _) (KL.out _ TH.out.grown)⟩
      · have e0 : (cf == 0) = false := by simpa using q0
        obtain ⟨d0, _, d1, _, e0', _, e1', _⟩ := St.s4 TF.out
        obtain ⟨r0, r1, r2, r3⟩ := KR.out wf TF.out.grown
        obtain ⟨ao, co, eo, _, _⟩ := OF.out.sl
        subst eo
        go_wp2_with fail
        exact bodyPost_ret (v := .tuple #[.agg #[.int .i64 Bt, .slice a2 l.length c2], .slice ao ts.length co]) (by simp [results, Try.results42, go_sem, *]) rfl ⟨Bt, a2, l.length, c2, l, _, ts, rfl, sl_resT SF.out (fun x hx => by have := (HA.out x hx).1; omega), h5, tf_mono (own_res OF.out (by omega)) (by omega), by omega, put_res (Nat.le_refl _) (KL.out _ TF.out.grown)⟩
end Go.Proofs.Ytdaihpkjnigjgaa
