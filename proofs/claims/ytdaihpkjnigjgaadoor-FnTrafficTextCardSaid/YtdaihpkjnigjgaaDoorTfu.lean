/- A traffic's text read, by the program: ReadTraffic. -/
import Derived.Test.YtdaihpkjnigjgaaDoorTft
namespace Go.Proofs.YtdaihpkjnigjgaaDoor
open Go.RowKit Go.Shelf
set_option maxHeartbeats 4000000
set_option maxRecDepth 100000
set_option linter.unusedVariables false
set_option linter.unusedSimpArgs false
theorem tf_nilL (B : Int) : tfB B [] = false := tfB_no (by simp)
theorem wdsT_below {N : Nat} {w w' : World} {g n cap : Nat} {W : List (List UInt8)} (h : Wds w g n cap W) (hg : g < N) (hb : Below N w w') : Wds w' g n cap W :=
  ⟨h.1, h.2.1, Nat.lt_of_lt_of_le h.2.2.1 hb.size, fun j hj => by rw [Below.cell (p := ⟨g, j, none⟩) hb hg]; exact h.2.2.2 j hj⟩
theorem wdsT_far {w : World} {g n cap : Nat} {W : List (List UInt8)} (h : Wds w g n cap W) {b : Nat} (hb : b ≠ g) (o : Nat) (u : Value) : Wds (w.setCell ⟨b, o, none⟩ u) g n cap W :=
  ⟨h.1, h.2.1, by rw [World.size_setCell]; exact h.2.2.1, fun j hj => by rw [World.cell?_setCell_other _ _ _ _ (by simp <;> omega)]; exact h.2.2.2 j hj⟩
theorem i_ReadTraffic (s : ByteArray) (w : World) (hs : s.size ≤ 1048576) (ht : Tab w) (hm : MaxL w) (he : Errs w) : Calls Tryd.prog 9 #[.string s] w (ReadsF w s.data.toList) := by
  obtain ⟨l, hl⟩ : ∃ l, l = s.data.toList := ⟨_, rfl⟩
  have hlen : l.length = s.size := by rw [hl]; rfl
  rw [← hl]
  have HL := Lib.hid hl
  have HLEN := Lib.hid hlen
  have HE := Lib.hid he
  have HT := Lib.hid ht
  have HM := Lib.hid hm
  clear hl hlen he ht
  unfold ReadsF
  have R0 : Hid (Fr w.heap.size [.int .i64 0, .slice none 0 0] (w.alloc (.cells #[.int .i64 0, .slice none 0 0] 26))) := Lib.hid (fr_alloc (Later.refl _))
  go_enter Tryd.func9, Tryd.ntmps9
  go_wp2_with fail
  refine (i_SplitN 32 (tx [32]) rfl 6 (by omega) (by omega) s _ hs (HM.out.later ((Later.refl w).alloc _))).mono ?_
  rw [← HL.out]
  rintro e w1 ⟨g, q, cap, W, hgb, hW, rfl, hwd, hb, hcap⟩
  have B1 : Hid (Later w w1) := Lib.hid (Later.trans ((Later.refl w).alloc _) hb)
  have R1 := Lib.hid (fr_later R0.out hb)
  have HWD : Hid (WdT l W) := Lib.hid (fun B L hx => by rw [hW]; exact isTx_cut hx _ rfl)
  have hlW := splitK_len 32 (min 6 (l.length + 1) - 1) l
  rw [← hW] at hlW
  have HQ := Lib.hid hwd.1
  have hq1 : 1 ≤ q := by rw [HQ.out]; exact hlW.1
  have hq6 : q ≤ 6 := by rw [HQ.out]; have := hlW.2; omega
  have hgw : w.heap.size < g := by simp at hgb; omega
  have hgs := hwd.2.2.1
  have hqc := hwd.2.1
  have HWS := Lib.hid hwd
  have hmax : Hid (∀ k, (W.getD k []).length ≤ 1048576) := Lib.hid (fun k => by
    rw [List.getD_eq_getElem?_getD]
    cases h : W[k]? with
    | none => simp
    | some y =>
      have := splitK_le 32 _ l y (by rw [← hW]; exact List.mem_of_getElem? h)
      have h2 := HLEN.out
      simp; omega)
  clear hW hwd hb hm hlW hgb R0
  have c0 : w1.cell? ⟨g, 0, none⟩ = some (.string (tx (W.getD 0 []))) := HWS.out.2.2.2 0 (by omega)
  obtain ⟨w0d, hw0d⟩ : ∃ u, u = W.getD 0 [] := ⟨_, rfl⟩
  rw [← hw0d] at c0
  have hw0l : (tx w0d).size ≤ 281474976710656 := by rw [tx_size, hw0d]; have := hmax.out 0; omega
  have HRC0 : Hid (RcW (W.getD 0 []) (rcV w0d) (rcB w0d)) := Lib.hid (by rw [hw0d]; exact rc_of _)
  obtain ⟨n0, hn0⟩ : ∃ n, n = rcV w0d := ⟨_, rfl⟩
  obtain ⟨b0, hb0⟩ : ∃ b, b = rcB w0d := ⟨_, rfl⟩
  have HRO : Hid (∀ W', Errs W' → Calls Tryd.prog 26 #[.string (tx w0d)] W' fun e w' => e = .returned (.tuple #[.int .i64 n0, .bool b0]) ∧ Later W' w') := Lib.hid (fun W' h => by rw [hn0, hb0]; exact i_readCount (tx w0d) W' hw0l h)
  rw [← hn0, ← hb0] at HRC0
  have HCNT := Lib.hid (pl_cnt HWD.out HRC0.out)
  clear hn0 hb0 hw0l hw0d
  go_wp2_with fail
  refine (HRO.out _ (HE.out.lat B1.out)).mono ?_
  rintro e w2 ⟨rfl, hb⟩
  have B2 : Hid (Later w w2) := Lib.hid (Later.trans B1.out hb)
  have R2 := Lib.hid (fr_later R1.out hb)
  have W2 := Lib.hid (HWS.out.later hb)
  have hz2 : w1.heap.size ≤ w2.heap.size := Later.size hb
  have hzw : w.heap.size < w2.heap.size := R2.out.1
  have hgs2 : g < w2.heap.size := by omega
  clear hb c0 R1
  cases b0
  · have HX : Hid (∀ B L, ¬ IsTx l B L) := Lib.hid (fun B L hx => by have := (HCNT.out B L hx).2; cases this)
    obtain ⟨r0, r1, f0, f1⟩ := R2.out.o2
    go_wp2_with fail
    refine bodyPost_ret (v := .tuple #[.agg #[.int .i64 0, .slice none 0 0], .bool false]) (by simp [results, Tryd.results9, go_sem, *] <;> omega) rfl ⟨(by repeat (first | (with_reducible exact Later.refl _) | (with_reducible exact Hid.out (by assumption)) | (with_reducible refine Later.alloc ?_ _) | (with_reducible refine Later.setCell ?_ (by simp; omega) _) | (with_reducible refine Later.setCell ?_ (by simp) _) | (with_reducible refine Later.drewN ?_ _) | (with_reducible refine Later.drew ?_) | (with_reducible refine Later.trans ?_ (Hid.out (by assumption))))), .inr ⟨HX.out, rfl⟩⟩
  · have hC : Hid (∀ B L, IsTx l B L → n0 = B) := Lib.hid (fun B L hx => (HCNT.out B L hx).1)
    clear HCNT
    obtain ⟨m, hqm⟩ : ∃ m, q = m + 1 := ⟨q - 1, by omega⟩
    obtain ⟨X, hX⟩ : ∃ X, X = w2.heap.size := ⟨_, rfl⟩
    have A3 : Hid (Fr X [.int .i64 n0, .slice none 0 0] (w2.alloc (.cells #[.int .i64 n0, .slice none 0 0] 26))) := Lib.hid (by rw [hX]; exact fr_alloc (Later.refl _))
    have R3 := Lib.hid (fr_later R2.out ((Later.refl w2).alloc (.cells #[.int .i64 n0, .slice none 0 0] 26)))
    have W3 := Lib.hid (W2.out.later ((Later.refl w2).alloc (.cells #[.int .i64 n0, .slice none 0 0] 26)))
    have B3 := Lib.hid (B2.out.alloc (.cells #[.int .i64 n0, .slice none 0 0] 26))
    have hz3 : X + 1 ≤ (w2.alloc (.cells #[.int .i64 n0, .slice none 0 0] 26)).heap.size := by rw [World.size_alloc]; omega
    have hXw : w.heap.size < X := by omega
    have hgX : g < X := by omega
    have hm1 : (q : Int) - 1 = (m : Int) := by omega
    have hmw : IntKind.i64.wrap ((q : Int) - 1) = (m : Int) := by rw [IntWalk.i64_in _ (by omega)]; omega
    have hm0 : (0 : Int) ≤ m := by omega
    have HQM := Lib.hid hqm
    have hmc : m ≤ cap - 1 := by omega
    clear hqm
    by_cases hc1 : cap = 1
    · have HM0 : Hid (m = 0) := Lib.hid (by omega)
      have HX : Hid (∀ B L, ¬ IsTx l B L) := Lib.hid (fun B L hx => by
        have h1 := congrArg List.length (HWD.out B L hx)
        rw [← HQ.out, HQM.out, HM0.out] at h1
        obtain ⟨_, _, h3, _⟩ := (tfB_iff B L).1 hx.1
        rw [List.length_cons, List.length_map] at h1; omega)
      have hq1' : q = 1 := by rw [HQM.out, HM0.out]
      have HTN := Lib.hid (tf_nilL n0)
      subst hq1'
      subst hc1
      have A3' := Lib.hid A3.out
      rw [hX] at A3'
      go_wp2_with fail
      go_loop [29] (fun i => i = .int .i64 0) (fun _ => 0)
      case atStart => rfl
      case round =>
        obtain rfl := hrel
        obtain ⟨x0, x1, _, _⟩ := A3'.out.o2
        go_wp2_with (go_at_call 21; refine (i_IsTraffic n0 none 0 0 [] _ ⟨rfl, by omega, fun k hk => by omega, fun x hx => by simp at hx⟩).mono ?_; rw [HTN.out]; rintro e w5 ⟨rfl, hb5⟩; have B5 := Lib.hid (Later.trans B3.out hb5); have R5 := Lib.hid (fr_later R3.out hb5); obtain ⟨r0, r1, f0, f1⟩ := R5.out.o2; clear hb5)
        refine bodyPost_ret (v := .tuple #[.agg #[.int .i64 0, .slice none 0 0], .bool false]) (by simp [results, Tryd.results9, go_sem, *] <;> omega) rfl ⟨(by repeat (first | (with_reducible exact Later.refl _) | (with_reducible exact Hid.out (by assumption)) | (with_reducible refine Later.alloc ?_ _) | (with_reducible refine Later.setCell ?_ (by simp; omega) _) | (with_reducible refine Later.setCell ?_ (by simp) _) | (with_reducible refine Later.drewN ?_ _) | (with_reducible refine Later.drew ?_) | (with_reducible refine Later.trans ?_ (Hid.out (by assumption))))), .inr ⟨HX.out, rfl⟩⟩
    · have hc2 : 1 ≤ cap - 1 := by omega
      have O3 : Hid (Own (w2.alloc (.cells #[.int .i64 n0, .slice none 0 0] 26)) (X + 1) (.slice none 0 0) []) := Lib.hid (tf_none _ _)
      clear hc1
      have HXX := Lib.hid hX
      have hqn : q - 1 = m := by have := HQM.out; omega
      clear hX
      go_wp2_with fail
      rw [← HXX.out]
      go_loopw [29] (fun i wr => ∃ (k : Nat) (P : List Int) (v : Value), i = .int .i64 k ∧ k ≤ m ∧ Hid (PlTo l k P) ∧ Own wr (X + 1) v P ∧ Fr w.heap.size [.int .i64 0, .slice none 0 0] wr ∧ Fr X [.int .i64 n0, v] wr ∧ Wds wr g q cap W ∧ Later w wr) (fun i _ => m - (intOf i).toNat)
      case atStart => exact ⟨0, [], _, rfl, by omega, Lib.hid ⟨rfl, fun B L _ => by simp⟩, O3.out, R3.out, A3.out, W3.out, B3.out⟩
      case round =>
        clear A3 R3 W3 B3 O3
        obtain ⟨k, P, v, rfl, hk, HR, ho, hr, ha, hwd, hb⟩ := hrel
        have O2 := Lib.hid ho; have R4 := Lib.hid hr; have A4 := Lib.hid ha; have W4 := Lib.hid hwd; have B4 := Lib.hid hb
        have hzr := ha.1
        clear ho hr ha hwd hb
        by_cases hlt : k < m
        · obtain ⟨wk, hwk⟩ : ∃ u, u = W.getD (k + 1) [] := ⟨_, rfl⟩
          have hwl : (tx wk).size ≤ 1048576 := by rw [tx_size, hwk]; exact hmax.out _
          have cw : wr.cell? ⟨g, 1 + k, none⟩ = some (.string (tx wk)) := by rw [Nat.add_comm 1 k, hwk]; exact W4.out.2.2.2 (k + 1) (by have := HQM.out; omega)
          have hgr := W4.out.2.2.1
          have hkm : (k : Int) < m := by omega
          have HWK := Lib.hid hwk
          clear hwk
          go_wp2_with fail
          refine (i_readPlace _ _ hwl (HE.out.lat (show Later w _ from B4.out.trans (by repeat (first | (with_reducible exact Later.refl _) | (with_reducible exact Hid.out (by assumption)) | (with_reducible refine Later.alloc ?_ _) | (with_reducible refine Later.setCell ?_ (by simp; omega) _) | (with_reducible refine Later.setCell ?_ (by simp) _) | (with_reducible refine Later.drewN ?_ _) | (with_reducible refine Later.drew ?_) | (with_reducible refine Later.trans ?_ (Hid.out (by assumption)))))))).mono ?_
          rintro e w5 ⟨hb5, p, b, hy, rfl⟩
          have hb5' : Later wr w5 := Later.trans (by repeat (first | (with_reducible exact Later.refl _) | (with_reducible exact Hid.out (by assumption)) | (with_reducible refine Later.alloc ?_ _) | (with_reducible refine Later.setCell ?_ (by simp; omega) _) | (with_reducible refine Later.setCell ?_ (by simp) _) | (with_reducible refine Later.drewN ?_ _) | (with_reducible refine Later.drew ?_) | (with_reducible refine Later.trans ?_ (Hid.out (by assumption))))) hb5
          have HY : Hid (RpW (W.getD (k + 1) []) p b) := Lib.hid (by rw [← HWK.out]; exact hy)
          have B5 := Lib.hid (B4.out.trans hb5')
          have R5 := Lib.hid (fr_later R4.out hb5')
          have A5 := Lib.hid (fr_later A4.out hb5')
          have W5 := Lib.hid (W4.out.later hb5')
          have O5 := Lib.hid (tf_lat O2.out hb5')
          have hz5 := A5.out.1
          clear hb5 hb5' hy cw O2 R4 A4 W4 B4
          cases b
          · have HX := Lib.hid (pl_bad HWD.out (by rw [← HQ.out, HQM.out]; omega) HY.out)
            obtain ⟨r0, r1, f0, f1⟩ := R5.out.o2
            go_wp2_with fail
            refine bodyPost_ret (v := .tuple #[.agg #[.int .i64 0, .slice none 0 0], .bool false]) (by simp [results, Tryd.results9, go_sem, *] <;> omega) rfl ⟨(by repeat (first | (with_reducible exact Later.refl _) | (with_reducible exact Hid.out (by assumption)) | (with_reducible refine Later.alloc ?_ _) | (with_reducible refine Later.setCell ?_ (by simp; omega) _) | (with_reducible refine Later.setCell ?_ (by simp) _) | (with_reducible refine Later.drewN ?_ _) | (with_reducible refine Later.drew ?_) | (with_reducible refine Later.trans ?_ (Hid.out (by assumption))))), .inr ⟨HX.out, rfl⟩⟩
          · have HR' := Lib.hid (plTo_snoc HWD.out HR.out (by rw [← HQ.out, HQM.out]; omega) HY.out)
            have hPl : P.length ≤ 1000000000 := by have := HR.out.1; omega
            have HIN := Lib.hid HY.out.1
            obtain ⟨x0, x1, y0, y1⟩ := A5.out.o2
            have hz6 : X + 1 ≤ w5.heap.size := hz5
            go_wp2_with (at_builtin; go_must (refine app1 rfl _ _ rfl (X + 1) _ _ _ _ _ O5.out rfl rfl HIN.out hPl hz6 ?_; intro v' w7 ho hg; obtain ⟨a7, cp7, hv7, _, _⟩ := ho.sl; generalize (P ++ [p]).length = n7 at hv7; subst hv7; have O7 := Lib.hid ho; have A7 := Lib.hid (frT_kept A5.out hg (fun e => by have := (O5.out.lt _ e).1; omega)); have R7 := Lib.hid (frT_kept R5.out hg (fun e => by have := (O5.out.lt _ e).1; omega)); have W7 := Lib.hid (wdsT_below (N := X) W5.out hgX ((Below.refl _ _).grown hg (by omega) (fun j hj => by have := (O5.out.lt j hj).1; omega))); have B7 : Hid (Later w w7) := Lib.hid (Below.grown B5.out hg B5.out.size (fun j hj => by have := (O5.out.lt j hj).1; omega)); obtain ⟨x0, x1, y0, y1⟩ := A7.out.o2; clear ho hg))
            go_roundw
            case rel => exact ⟨k + 1, P ++ [p], _, by go_num, by omega, HR', O7.out.kept (grown_set _ X 1 _) (fun j e => by cases e; omega), frT_far R7.out _ _ (by show X ≠ w.heap.size; omega), frT_set A7.out _, wdsT_far W7.out (by omega) _ _, B7.out.setCell (p := ⟨X, 1, none⟩) (by show w.heap.size ≤ X; omega) _⟩
            case measure => simp [intOf]; omega
        · obtain rfl : k = m := by omega
          have HEND := Lib.hid (pl_end HWD.out HR.out (by rw [← HQ.out]; exact HQM.out))
          have HO := Lib.hid O2.out
          obtain ⟨a, cp, hv, hsl, hab⟩ := O2.out.sl
          have HSL := Lib.hid hsl
          obtain ⟨np, hnp⟩ : ∃ np, np = P.length := ⟨_, rfl⟩
          rw [← hnp] at hv HSL
          subst hv
          clear hsl hab hnp
          obtain ⟨x0, x1, _, _⟩ := A4.out.o2
          cases hT : tfB n0 P
          · have HX : Hid (∀ B L, ¬ IsTx l B L) := Lib.hid (fun B L hx => by
              have e1 := hC.out B L hx; have e2 := HEND.out B L hx
              rw [e1, e2, hx.1] at hT; cases hT)
            go_wp2_with (go_at_call 21; refine (i_IsTraffic n0 a np cp P _ (sl_later HSL.out (show Later wr _ from (by repeat (first | (with_reducible exact Later.refl _) | (with_reducible exact Hid.out (by assumption)) | (with_reducible refine Later.alloc ?_ _) | (with_reducible refine Later.setCell ?_ (by simp; omega) _) | (with_reducible refine Later.setCell ?_ (by simp) _) | (with_reducible refine Later.drewN ?_ _) | (with_reducible refine Later.drew ?_) | (with_reducible refine Later.trans ?_ (Hid.out (by assumption)))))))).mono ?_; rw [hT]; rintro e w5 ⟨rfl, hb5⟩; have B5 := Lib.hid (Later.trans B4.out hb5); have R5 := Lib.hid (fr_later R4.out hb5); obtain ⟨r0, r1, f0, f1⟩ := R5.out.o2; clear hb5)
            refine bodyPost_ret (v := .tuple #[.agg #[.int .i64 0, .slice none 0 0], .bool false]) (by simp [results, Tryd.results9, go_sem, *] <;> omega) rfl ⟨(by repeat (first | (with_reducible exact Later.refl _) | (with_reducible exact Hid.out (by assumption)) | (with_reducible refine Later.alloc ?_ _) | (with_reducible refine Later.setCell ?_ (by simp; omega) _) | (with_reducible refine Later.setCell ?_ (by simp) _) | (with_reducible refine Later.drewN ?_ _) | (with_reducible refine Later.drew ?_) | (with_reducible refine Later.trans ?_ (Hid.out (by assumption))))), .inr ⟨HX.out, rfl⟩⟩
          · by_cases hq : tfTx n0 P = l
            · have e1 : ((tx (tfTx n0 P)).toList == s.toList) = true := by
                rw [Lib.toList_data, Lib.toList_data, ← HL.out, hq]; simp [tx]
              have HLL : Hid (IsTx l n0 P) := Lib.hid (by rw [← hq]; exact tf_isTx hT)
              clear hq
              go_wp2_with (first | (go_at_call 21; refine (i_IsTraffic n0 a np cp P _ (sl_later HSL.out (show Later wr _ from (by repeat (first | (with_reducible exact Later.refl _) | (with_reducible exact Hid.out (by assumption)) | (with_reducible refine Later.alloc ?_ _) | (with_reducible refine Later.setCell ?_ (by simp; omega) _) | (with_reducible refine Later.setCell ?_ (by simp) _) | (with_reducible refine Later.drewN ?_ _) | (with_reducible refine Later.drew ?_) | (with_reducible refine Later.trans ?_ (Hid.out (by assumption)))))))).mono ?_; rw [hT]; rintro e w5 ⟨rfl, hb5⟩; have B5 := Lib.hid (Later.trans B4.out hb5); have R5 := Lib.hid (fr_later R4.out hb5); have A5 := Lib.hid (fr_later A4.out hb5); have O5 := Lib.hid (tf_lat HO.out hb5); have S5 := Lib.hid (sl_later HSL.out hb5); obtain ⟨x0, x1, _, _⟩ := A5.out.o2; clear hb5) | (go_at_call 8; refine (i_TrafficText n0 a np cp P _ S5.out (HT.out.later B5.out)).mono ?_; rintro e w6 ⟨rfl, hb6⟩; have B6 := Lib.hid (Later.trans B5.out hb6); have R6 := Lib.hid (fr_later R5.out hb6); have A6 := Lib.hid (fr_later A5.out hb6); have O6 := Lib.hid (tf_lat O5.out hb6); obtain ⟨x0, x1, _, _⟩ := A6.out.o2; obtain ⟨r0, r1, f0, f1⟩ := R6.out.o2; clear hb6))
              refine bodyPost_ret (v := .tuple #[.agg #[.int .i64 n0, .slice a np cp], .bool true]) (by simp [results, Tryd.results9, go_sem, *] <;> omega) rfl ⟨put_res (Nat.le_refl _) B6.out, .inl ⟨n0, P, _, HLL.out, rfl, tf_mono (own_res O6.out (by omega)) (by omega)⟩⟩
            · have e1 : ((tx (tfTx n0 P)).toList == s.toList) = false := by
                rw [Lib.toList_data, Lib.toList_data, ← HL.out]
                show (tfTx n0 P == l) = false
                simpa using hq
              have HX : Hid (∀ B L, ¬ IsTx l B L) := Lib.hid (fun B L hx => by
                have e1 := hC.out B L hx; have e2 := HEND.out B L hx
                rw [e1, e2] at hq; exact hq (isTx_tf hx).symm)
              clear hq
              go_wp2_with (first | (go_at_call 21; refine (i_IsTraffic n0 a np cp P _ (sl_later HSL.out (show Later wr _ from (by repeat (first | (with_reducible exact Later.refl _) | (with_reducible exact Hid.out (by assumption)) | (with_reducible refine Later.alloc ?_ _) | (with_reducible refine Later.setCell ?_ (by simp; omega) _) | (with_reducible refine Later.setCell ?_ (by simp) _) | (with_reducible refine Later.drewN ?_ _) | (with_reducible refine Later.drew ?_) | (with_reducible refine Later.trans ?_ (Hid.out (by assumption)))))))).mono ?_; rw [hT]; rintro e w5 ⟨rfl, hb5⟩; have B5 := Lib.hid (Later.trans B4.out hb5); have R5 := Lib.hid (fr_later R4.out hb5); have A5 := Lib.hid (fr_later A4.out hb5); have S5 := Lib.hid (sl_later HSL.out hb5); obtain ⟨x0, x1, _, _⟩ := A5.out.o2; clear hb5) | (go_at_call 8; refine (i_TrafficText n0 a np cp P _ S5.out (HT.out.later B5.out)).mono ?_; rintro e w6 ⟨rfl, hb6⟩; have B6 := Lib.hid (Later.trans B5.out hb6); have R6 := Lib.hid (fr_later R5.out hb6); obtain ⟨r0, r1, f0, f1⟩ := R6.out.o2; clear hb6))
              refine bodyPost_ret (v := .tuple #[.agg #[.int .i64 0, .slice none 0 0], .bool false]) (by simp [results, Tryd.results9, go_sem, *] <;> omega) rfl ⟨(by repeat (first | (with_reducible exact Later.refl _) | (with_reducible exact Hid.out (by assumption)) | (with_reducible refine Later.alloc ?_ _) | (with_reducible refine Later.setCell ?_ (by simp; omega) _) | (with_reducible refine Later.setCell ?_ (by simp) _) | (with_reducible refine Later.drewN ?_ _) | (with_reducible refine Later.drew ?_) | (with_reducible refine Later.trans ?_ (Hid.out (by assumption))))), .inr ⟨HX.out, rfl⟩⟩
end Go.Proofs.YtdaihpkjnigjgaaDoor
