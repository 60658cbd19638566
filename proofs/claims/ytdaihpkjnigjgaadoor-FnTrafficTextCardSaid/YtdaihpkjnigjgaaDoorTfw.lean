/- A traffic's text read, by the model: ReadTraffic. -/
import Derived.Test.YtdaihpkjnigjgaaDoorTfv
namespace Go.Proofs.YtdaihpkjnigjgaaDoor
open Go.RowKit Go.Shelf
set_option maxHeartbeats 4000000
set_option maxRecDepth 100000
set_option linter.unusedVariables false
set_option linter.unusedSimpArgs false
theorem s_ReadTraffic (s : ByteArray) (w : World) (hs : s.size ≤ 1048576) : Calls Tryd.prog 11 #[.string s] w (ReadsF w s.data.toList) := by
  obtain ⟨l, hl⟩ : ∃ l, l = s.data.toList := ⟨_, rfl⟩
  have hlen : l.length = s.size := by rw [hl]; rfl
  rw [← hl]
  have HL := Lib.hid hl
  have HLEN := Lib.hid hlen
  clear hl hlen
  unfold ReadsF
  have R0 : Hid (Fr w.heap.size [.int .i64 0, .slice none 0 0] (w.alloc (.cells #[.int .i64 0, .slice none 0 0] 26))) := Lib.hid (fr_alloc (Later.refl _))
  go_enter Tryd.func11, Tryd.ntmps11
  go_wp2_with fail
  refine (s_Split s 32 _ hs).mono ?_
  rw [← HL.out]
  rintro e w1 ⟨vw, rfl, hov, hb⟩
  have B1 : Hid (Later w w1) := Lib.hid (Later.trans ((Later.refl w).alloc _) hb)
  have R1 := Lib.hid (fr_later R0.out hb)
  clear hb R0
  obtain ⟨W, hW⟩ : ∃ W, W = spl 32 l := ⟨_, rfl⟩
  have HWd := Lib.hid hW
  have HWD : Hid (WdT l W) := Lib.hid (by rw [hW]; exact wdT_spl l)
  rw [← hW] at hov
  obtain ⟨g, cap, rfl, hcap, hg, hgb, hcell⟩ := hov.row (by rw [hW]; exact spl_ne _ _)
  have hmax : Hid (∀ k, (W.getD k []).length ≤ 1048576) := Lib.hid (fun k => by
    rw [List.getD_eq_getElem?_getD]
    cases h : W[k]? with
    | none => simp
    | some y =>
      have := spl_le 32 l y (by rw [← hW]; exact List.mem_of_getElem? h)
      have h2 := HLEN.out
      simp; omega)
  have hcnt : W.length ≤ 1048577 := by rw [hW]; have := spl_count 32 l; rw [HLEN.out] at this; omega
  have hne : W.length ≠ 0 := fun h => spl_ne 32 l (by rw [← hW]; exact List.length_eq_zero_iff.1 h)
  have HWS : Hid (Wds w1 g W.length cap W) := Lib.hid ⟨rfl, hcap, hg, fun j hj => by
    have h := hcell j (tx (W.getD j [])) (by
      rw [List.getElem?_map, List.getElem?_eq_getElem hj]
      simp [List.getD_eq_getElem?_getD, List.getElem?_eq_getElem hj])
    rw [Nat.zero_add] at h
    exact h⟩
  obtain ⟨q, hq⟩ : ∃ q, q = W.length := ⟨_, rfl⟩
  rw [← hq] at hcap hcnt hne HWS ⊢
  have HQ := Lib.hid hq
  have hgw : w.heap.size < g := by simp at hgb; omega
  clear hcell hW hov hq hgb
  obtain ⟨m, hqm⟩ : ∃ m, q = m + 1 := ⟨q - 1, by omega⟩
  have hq1 : 0 < q := by omega
  have hq1i : (0 : Int) < q := by omega
  have c0 : w1.cell? ⟨g, 0, none⟩ = some (.string (tx (W.getD 0 []))) := HWS.out.2.2.2 0 (by omega)
  obtain ⟨w0d, hw0d⟩ : ∃ u, u = W.getD 0 [] := ⟨_, rfl⟩
  rw [← hw0d] at c0
  have hw0l : (tx w0d).size ≤ 1048576 := by rw [tx_size, hw0d]; exact hmax.out 0
  have HSV : Hid (∀ W', Calls Tryd.prog 31 #[.string (tx w0d)] W' (ReadsN W' w0d)) := Lib.hid (fun W' => by have := s_Value (tx w0d) W' hw0l; simpa [tx] using this)
  have HQM := Lib.hid hqm
  have HW0 := Lib.hid hw0d
  clear hw0l hw0d hqm
  go_wp2_with fail
  refine (HSV.out _).mono ?_
  rintro e w2 ⟨hb, hres⟩
  have B2 : Hid (Later w w2) := Lib.hid (Later.trans B1.out hb)
  have R2 := Lib.hid (fr_later R1.out hb)
  have W2 := Lib.hid (HWS.out.later hb)
  have hz2 : w1.heap.size ≤ w2.heap.size := Later.size hb
  have hzw : w.heap.size < w2.heap.size := R2.out.1
  clear hb c0 R1
  have fin : ∃ (v : Nat) (b0 : Bool), v < 1000000000000 ∧ e = .returned (.tuple #[.int .i64 (v : Int), .bool b0]) ∧ Hid ((b0 = true → Lib.decDigits v = W.getD 0 [] ∧ MsTo W 0 []) ∧ (b0 = false → ∀ B L, ¬ IsTx l B L)) := by
    rcases hres with ⟨v, h1, h2, h3⟩ | ⟨h1, v, h2, h3⟩
    · exact ⟨v, true, h1, h3, Lib.hid ⟨fun _ => ⟨by rw [h2]; exact HW0.out, by unfold MsTo; simp⟩, fun h => by cases h⟩⟩
    · refine ⟨v, false, h2, h3, Lib.hid ⟨fun h => (by cases h), fun _ B L hx => h1 ?_⟩⟩
      obtain ⟨b1, b2, _⟩ := (tfB_iff B L).1 hx.1
      exact ⟨B.toNat, by omega, by rw [HW0.out, HWD.out B L hx, ← itoa_nn B (by omega)]; rfl⟩
  obtain ⟨n0, b0, hn0, rfl, HB0⟩ := fin
  clear hres
  have hn0r : InR (n0 : Int) := ⟨by omega, by omega⟩
  obtain ⟨X, hX⟩ : ∃ X, X = w2.heap.size := ⟨_, rfl⟩
  obtain ⟨w3, hw3⟩ : ∃ w3, w3 = w2.alloc (.cells #[.int .i64 (n0 : Int), .slice none 0 0] 26) := ⟨_, rfl⟩
  have hw3s : w3.heap.size = X + 1 := by rw [hw3, World.size_alloc, hX]
  have L23 : Later w2 w3 := by rw [hw3]; exact (Later.refl w2).alloc _
  have L24 : Later w2 (w3.alloc (.cells #[] 2)) := L23.alloc _
  have A4 : Hid (Fr X [.int .i64 (n0 : Int), .slice none 0 0] (w3.alloc (.cells #[] 2))) := Lib.hid (fr_later (by rw [hw3, hX]; exact fr_alloc (Later.refl _)) ((Later.refl w3).alloc _))
  have R4 := Lib.hid (fr_later R2.out L24)
  have W4 := Lib.hid (W2.out.later L24)
  have B4 := Lib.hid (B2.out.trans L24)
  have O4 : Hid (Own (w3.alloc (.cells #[] 2)) (X + 1) (.slice (some ⟨w3.heap.size, 0, none⟩) 0 0) []) := Lib.hid (own_new _ _ (by omega))
  have hXw : w.heap.size < X := by omega
  have hgX : g < X := by have := W2.out.2.2.1; omega
  have HW3 := Lib.hid hw3
  have HXX := Lib.hid hX
  rw [hw3] at A4 R4 W4 B4 O4
  clear L23 L24 hw3 hX hw3s R2 W2 B2
  have q1w : ((1 : Nat) : Int) = 1 := rfl
  go_wp2_with fail
  rw [← HXX.out]
  go_loopw [6, 8, 9] (fun o v i wr => ∃ (k : Nat) (P : List Int) (gb : Bool), o = .bool gb ∧ i = .int .i64 ((k + 1 : Nat) : Int) ∧ k ≤ m ∧ P.length = k ∧ Hid ((gb = true → MsTo W k P ∧ Lib.decDigits n0 = W.getD 0 []) ∧ (gb = false → ∀ B L, ¬ IsTx l B L)) ∧ Own wr (X + 1) v P ∧ Fr w.heap.size [.int .i64 0, .slice none 0 0] wr ∧ Fr X [.int .i64 (n0 : Int), .slice none 0 0] wr ∧ Wds wr g q cap W ∧ Later w wr) (fun _ _ i _ => q - (intOf i).toNat)
  case atStart => exact ⟨0, [], b0, rfl, rfl, by omega, rfl, Lib.hid ⟨fun h => ⟨(HB0.out.1 h).2, (HB0.out.1 h).1⟩, HB0.out.2⟩, by have h := O4.out; simp only [World.size_alloc, ← HXX.out] at h; exact h, R4.out, A4.out, W4.out, B4.out⟩
  case round =>
    clear A4 R4 W4 B4 O4
    obtain ⟨k, P, gb, rfl, rfl, hk, hPl, HG, ho, hr, ha, hwd, hb⟩ := hrel
    have O2 := Lib.hid ho; have R2 := Lib.hid hr; have A2 := Lib.hid ha; have W2 := Lib.hid hwd; have B2 := Lib.hid hb
    have hzr := ha.1
    clear ho hr ha hwd hb
    have hk1w : IntKind.i64.wrap (((k + 1 : Nat) : Int) + 1) = ((k + 1 + 1 : Nat) : Int) := by rw [IntWalk.i64_in _ (by have := HQM.out; omega)]; omega
    cases gb
    · have HX : Hid (∀ B L, ¬ IsTx l B L) := Lib.hid (HG.out.2 rfl)
      obtain ⟨x0, x1, y0, y1⟩ := A2.out.o2
      obtain ⟨a, cp, hv, _, _⟩ := O2.out.sl
      obtain ⟨np, hnp⟩ : ∃ np, np = P.length := ⟨_, rfl⟩
      rw [← hnp] at hv
      subst hv
      obtain ⟨r0, r1, f0, f1⟩ := R2.out.o2
      have hne1 : w.heap.size ≠ X := by omega
      clear hnp
      go_wp2_with fail
      all_goals
        refine bodyPost_ret (v := .tuple #[.agg #[.int .i64 0, .slice none 0 0], .bool false]) (by simp [results, Tryd.results11, go_sem, *] <;> omega) rfl ⟨put_res (Nat.le_refl _) (B2.out.setCell (p := ⟨X, 1, none⟩) (by show w.heap.size ≤ X; omega) _), .inr ⟨HX.out, rfl⟩⟩
    · have HMS := Lib.hid (HG.out.1 rfl).1
      have HND := Lib.hid (HG.out.1 rfl).2
      by_cases hlt : k < m
      · obtain ⟨wk, hwk⟩ : ∃ u, u = W.getD (k + 1) [] := ⟨_, rfl⟩
        have hwl : (tx wk).size ≤ 1048576 := by rw [tx_size, hwk]; exact hmax.out _
        have hkq : k + 1 < q := by rw [HQM.out]; omega
        have hkqi : ((k + 1 : Nat) : Int) < q := by omega
        have hkq0 : (0 : Int) ≤ ((k + 1 : Nat) : Int) := by omega
        have cw : wr.cell? ⟨g, k + 1, none⟩ = some (.string (tx wk)) := by rw [hwk]; exact W2.out.2.2.2 (k + 1) hkq
        have hgr := W2.out.2.2.1
        have HWK := Lib.hid hwk
        have HPL : Hid (∀ W', Calls Tryd.prog 32 #[.string (tx wk)] W' (ReadsQ W' wk)) := Lib.hid (fun W' => by have := s_l10Place (tx wk) W' hwl; simpa [tx] using this)
        clear hwk hwl
        obtain ⟨kk, hkk⟩ : ∃ kk, kk = k + 1 := ⟨_, rfl⟩
        rw [← hkk] at hk1w hkq hkqi hkq0 cw ⊢
        have HKK := Lib.hid hkk
        clear hkk
        go_wp2_with fail
        refine (HPL.out _).mono ?_
        rintro e w5 ⟨hb5, hres⟩
        have hb5' : Later wr w5 := Later.trans (by repeat (first | (with_reducible exact Later.refl _) | (with_reducible exact Hid.out (by assumption)) | (with_reducible refine Later.alloc ?_ _) | (with_reducible refine Later.setCell ?_ (by simp; omega) _) | (with_reducible refine Later.setCell ?_ (by simp) _) | (with_reducible refine Later.drewN ?_ _) | (with_reducible refine Later.drew ?_) | (with_reducible refine Later.trans ?_ (Hid.out (by assumption))))) hb5
        have B5 := Lib.hid (B2.out.trans hb5')
        have R5 := Lib.hid (fr_later R2.out hb5')
        have A5 := Lib.hid (fr_later A2.out hb5')
        have W5 := Lib.hid (W2.out.later hb5')
        have O5 := Lib.hid (tf_lat O2.out hb5')
        have hz5 := A5.out.1
        have fin : ∃ (p : Int) (gg : Bool), InR p ∧ e = .returned (.tuple #[.int .i64 p, .bool gg]) ∧ Hid ((gg = true → MsTo W (k + 1) (P ++ [p]) ∧ Lib.decDigits n0 = W.getD 0 []) ∧ (gg = false → ∀ B L, ¬ IsTx l B L)) := by
          rcases hres with ⟨p, h1, h2, h3, h4⟩ | ⟨h1, p, h2, h3⟩
          · exact ⟨p, true, ⟨by omega, by omega⟩, h4, Lib.hid ⟨fun _ => ⟨msTo_snoc HMS.out (by rw [← HQ.out, ← HKK.out]; exact hkq) h1 (by rw [← HWK.out]; exact h3), HND.out⟩, fun h => by cases h⟩⟩
          · refine ⟨p, false, h2, h3, Lib.hid ⟨fun h => (by cases h), fun _ B L hx => ?_⟩⟩
            obtain ⟨a1, a2⟩ := wdT_at HWD.out (by rw [← HQ.out, ← HKK.out]; exact hkq) hx
            have a3 := isTx_pos hx _ (gx_mem L k a1)
            exact h1 _ a3.1 a3.2 (by rw [HWK.out]; exact a2)
        obtain ⟨p, gg, hpr, rfl, HGG⟩ := fin
        have HIN : Hid (InR p) := Lib.hid hpr
        have hPl9 : P.length ≤ 1000000000 := by have := HQM.out; omega
        have hz6 : X + 1 ≤ w5.heap.size := hz5
        clear hb5 hb5' hres cw R2 A2 W2 B2 O2 hpr
        go_wp2_with (at_builtin; go_must (refine app1 rfl _ _ rfl (X + 1) _ _ _ _ _ O5.out rfl rfl HIN.out hPl9 hz6 ?_; intro v' w7 ho hg; have O7 := Lib.hid ho; have A7 := Lib.hid (frT_kept A5.out hg (fun e => by have := (O5.out.lt _ e).1; omega)); have R7 := Lib.hid (frT_kept R5.out hg (fun e => by have := (O5.out.lt _ e).1; omega)); have W7 := Lib.hid (wdsT_below (N := X) W5.out hgX ((Below.refl _ _).grown hg (by omega) (fun j hj => by have := (O5.out.lt j hj).1; omega))); have B7 : Hid (Later w w7) := Lib.hid (Below.grown B5.out hg B5.out.size (fun j hj => by have := (O5.out.lt j hj).1; omega)); clear ho hg))
        go_roundw
        case rel => exact ⟨k + 1, P ++ [p], gg, rfl, by rw [HKK.out]; exact congrArg (Value.int .i64) (by omega), by omega, by rw [List.length_append, hPl]; rfl, HGG, O7.out, R7.out, A7.out, W7.out, B7.out⟩
        case measure => simp [intOf]; omega
      · obtain rfl : k = m := by omega
        have HEND := Lib.hid (ms_end HWd.out HMS.out (by rw [← HQ.out]; exact HQM.out) HND.out)
        have HPOS := Lib.hid HMS.out.2
        have hkq : ¬ (((k + 1 : Nat) : Int) < q) := by rw [HQM.out]; omega
        obtain ⟨x0, x1, y0, y1⟩ := A2.out.o2
        obtain ⟨a, cp, hv, hsl, _⟩ := O2.out.sl
        have HSL := Lib.hid hsl
        obtain ⟨np, hnp⟩ : ∃ np, np = P.length := ⟨_, rfl⟩
        rw [← hnp] at hv HSL
        subst hv
        obtain ⟨r0, r1, f0, f1⟩ := R2.out.o2
        have hne1 : w.heap.size ≠ X := by omega
        have P3 := Lib.hid (frT_set A2.out (.slice a np cp))
        have R3 := Lib.hid (frT_far R2.out ⟨X, 1, none⟩ (.slice a np cp) (by show X ≠ w.heap.size; omega))
        have O3 := Lib.hid (O2.out.kept (grown_set wr X 1 (.slice a np cp)) (fun j e => by cases e; omega))
        have B3 := Lib.hid (B2.out.setCell (p := ⟨X, 1, none⟩) (by show w.heap.size ≤ X; omega) (.slice a np cp))
        have S3 : Hid (Sl (wr.setCell ⟨X, 1, none⟩ (.slice a np cp)) a np P) := Lib.hid (by
          obtain ⟨a', c', e, hs3, _⟩ := O3.out.sl
          have e2 := e
          simp only [Value.slice.injEq] at e2
          obtain ⟨e3, e4, _⟩ := e2
          rw [← e3, ← e4] at hs3; exact hs3)
        clear hsl hnp
        cases hT : tfB (n0 : Int) P
        · have HX := Lib.hid (ms_no HEND.out HPOS.out hT)
          go_wp2_with (go_at_call 33; refine (s_IsTraffic (n0 : Int) a np cp P _ S3.out).mono ?_; rw [hT]; rintro e w5 ⟨rfl, hb5⟩; have B5 := Lib.hid (Later.trans B3.out hb5); have R5 := Lib.hid (fr_later R3.out hb5); obtain ⟨r0, r1, f0, f1⟩ := R5.out.o2; clear hb5)
          refine bodyPost_ret (v := .tuple #[.agg #[.int .i64 0, .slice none 0 0], .bool false]) (by simp [results, Tryd.results11, go_sem, *] <;> omega) rfl ⟨put_res (Nat.le_refl _) B5.out, .inr ⟨HX.out, rfl⟩⟩
        · have HX := Lib.hid (ms_ok HEND.out hT)
          go_wp2_with (go_at_call 33; refine (s_IsTraffic (n0 : Int) a np cp P _ S3.out).mono ?_; rw [hT]; rintro e w5 ⟨rfl, hb5⟩; have B5 := Lib.hid (Later.trans B3.out hb5); have R5 := Lib.hid (fr_later R3.out hb5); have P5 := Lib.hid (fr_later P3.out hb5); have O5 := Lib.hid (tf_lat O3.out hb5); obtain ⟨x0, x1, y0, y1⟩ := P5.out.o2; obtain ⟨r0, r1, f0, f1⟩ := R5.out.o2; clear hb5)
          refine bodyPost_ret (v := .tuple #[.agg #[.int .i64 (n0 : Int), .slice a np cp], .bool true]) (by simp [results, Tryd.results11, go_sem, *] <;> omega) rfl ⟨put_res (Nat.le_refl _) B5.out, .inl ⟨_, P, _, HX.out, rfl, tf_mono (own_res O5.out (by omega)) (by omega)⟩⟩
end Go.Proofs.YtdaihpkjnigjgaaDoor
