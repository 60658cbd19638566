/- A layout's text read, by the model: ReadLayout. -/
import Derived.Test.YtkhhoajoionlfaaDoorRdL
import Derived.Test.YtkhhoajoionlfaaDoorSgU
namespace Go.Proofs.YtkhhoajoionlfaaDoor
open Go.RowKit Go.Shelf
set_option maxHeartbeats 4000000
set_option linter.unusedVariables false
set_option linter.unusedSimpArgs false
theorem isWords_in {W : List (List UInt8)} {x : Sg} (h : IsWords W x) : x.In := by
  obtain ⟨_, hk, _, hz⟩ := h
  unfold kndB at hk
  simp at hk
  have z0 := hz 0 (by omega); have z1 := hz 1 (by omega); have z2 := hz 2 (by omega); have z3 := hz 3 (by omega); have z4 := hz 4 (by omega); have z5 := hz 5 (by omega)
  unfold IsZ Sg.at at z0 z1 z2 z3 z4 z5
  simp only [] at z0 z1 z2 z3 z4 z5
  intro j
  unfold Sg.at
  split <;> omega
theorem rsg_words {u : List UInt8} {x : Sg} (h : IsWords (spl 32 u) x) : RSg u x true := by
  refine ⟨isWords_in h, fun y hy hu => ⟨?_, rfl⟩⟩
  rw [hu] at h
  exact isWords_inj h (isWords_wds y hy)
theorem rsg_nowords {u : List UInt8} (h : ∀ x, ¬ IsWords (spl 32 u) x) : RSg u sg0 false := by
  refine ⟨fun j => by unfold sg0 Sg.at; split <;> decide, fun y hy hu => ?_⟩
  rw [hu] at h
  exact absurd (isWords_wds y hy) (h y)
/-- 'the first k lines are the texts of L' -/
def TxTo (W : List (List UInt8)) (k : Nat) (L : List Sg) : Prop := W.take k = L.map segTx
theorem txTo_snoc {W : List (List UInt8)} {k : Nat} {L : List Sg} {x : Sg} (h : TxTo W k L) (hk : k < W.length) (hx : IsWords (spl 32 (W.getD k [])) x) : TxTo W (k + 1) (L ++ [x]) := by
  unfold TxTo at *
  have e : W[k] = segTx x := by
    have := isWords_text hx
    rw [List.getD_eq_getElem?_getD, List.getElem?_eq_getElem hk] at this
    exact this
  rw [List.take_succ_eq_append_getElem hk, h, e]
  simp
theorem tx_end {l : List UInt8} {W : List (List UInt8)} {k : Nat} {L : List Sg} (hW : W = spl 10 l) (h : TxTo W k L) (hk : W.length = k + 1) (h0 : W.getD k [] = []) : l = linTx L := by
  refine lin_of_spl L l ?_
  rw [← hW, ← h]
  have e : W[k]'(by omega) = [] := by
    rw [List.getD_eq_getElem?_getD, List.getElem?_eq_getElem (by omega)] at h0
    exact h0
  have h1 : W.take (k + 1) = W.take k ++ [W[k]'(by omega)] := List.take_succ_eq_append_getElem (by omega)
  rw [e, ← hk, List.take_length] at h1
  exact h1
theorem ln_spl {l : List UInt8} : LnOf l (spl 10 l) := fun M _ hl => by rw [hl]; exact spl_linTx M
theorem rd_last {l : List UInt8} {W : List (List UInt8)} {k : Nat} (h : LnOf l W) (hk : W.length = k + 1) (h0 : W.getD k [] ≠ []) : ∀ M, layB M = true → l ≠ linTx M := by
  intro M hM hl
  have hW := h M hM hl
  refine h0 ?_
  have hl2 := congrArg List.length hW
  rw [hk] at hl2
  simp at hl2
  rw [hW, List.getD_eq_getElem?_getD, List.getElem?_append_right (by simp; omega), hl2]
  simp
/-- the result's variable, still nothing -/
def OneV (w W : World) : Prop := w.heap.size < W.heap.size ∧ W.cell? ⟨w.heap.size, 0, none⟩ = some (.slice none 0 0) ∧ W.frozen? ⟨w.heap.size, 0, none⟩ = false
theorem OneV.later {w W W' : World} (h : OneV w W) (b : Later W W') : OneV w W' :=
  ⟨Nat.lt_of_lt_of_le h.1 b.size, by rw [b.cell (p := ⟨w.heap.size, 0, none⟩) h.1]; exact h.2.1, by rw [Below.frozen (p := ⟨w.heap.size, 0, none⟩) b h.1]; exact h.2.2⟩
set_option maxRecDepth 100000 in
theorem s_ReadLayout (s : ByteArray) (w : World) (hs : s.size ≤ 1048576) : Calls Tryd.prog 4 #[.string s] w (ReadsR w s.data.toList) := by
  obtain ⟨l, hl⟩ : ∃ l, l = s.data.toList := ⟨_, rfl⟩
  have hlen : l.length = s.size := by rw [hl]; rfl
  rw [← hl]
  have HL := Lib.hid hl
  have HLEN := Lib.hid hlen
  clear hl hlen
  have V0H : Hid (OneV w (w.alloc (.cells #[.slice none 0 0] 24))) := Lib.hid ⟨by simp, by simp, by simp⟩
  go_enter Tryd.func4, Tryd.ntmps4
  go_wp2_with fail
  refine (s_Split10 s _ hs).mono ?_
  rw [← HL.out]
  rintro e w1 ⟨vw, rfl, hov, hb⟩
  have B1 := Lib.hid (Later.trans ((Later.refl w).alloc _) hb)
  have V1 := Lib.hid (V0H.out.later hb)
  have hz1 : w.heap.size < w1.heap.size := V1.out.1
  clear hb
  obtain ⟨W, hW⟩ : ∃ W, W = spl 10 l := ⟨_, rfl⟩
  have HWd := Lib.hid hW
  have HLO : Hid (LnOf l W) := Lib.hid (by rw [hW]; exact ln_spl)
  unfold ReadsR
  rw [← hW] at hov
  obtain ⟨g, cap, rfl, hcap, hg, hgb, hcell⟩ := hov.row (by rw [hW]; exact spl_ne _ _)
  have hmax : Hid (∀ k, (W.getD k []).length ≤ 1048576) := Lib.hid (fun k => by
    rw [List.getD_eq_getElem?_getD]
    cases h : W[k]? with
    | none => simp
    | some y =>
      have := spl_le 10 l y (by rw [← hW]; exact List.mem_of_getElem? h)
      have h2 := HLEN.out
      simp; omega)
  have hcnt : W.length ≤ 1048577 := by rw [hW]; have := spl_count 10 l; rw [HLEN.out] at this; omega
  have hne : W.length ≠ 0 := fun h => spl_ne 10 l (by rw [← hW]; exact List.length_eq_zero_iff.1 h)
  have HWD : Hid (Wds w1 g W.length cap W) := Lib.hid ⟨rfl, hcap, hg, fun j hj => by
    have h := hcell j (tx (W.getD j [])) (by
      rw [List.getElem?_map, List.getElem?_eq_getElem hj]
      simp [List.getD_eq_getElem?_getD, List.getElem?_eq_getElem hj])
    rw [Nat.zero_add] at h
    exact h⟩
  obtain ⟨q, hq⟩ : ∃ q, q = W.length := ⟨_, rfl⟩
  rw [← hq] at hcap hcnt hne HWD ⊢
  have HQ := Lib.hid hq
  clear hcell hW hov hq
  obtain ⟨m, hqm⟩ : ∃ m, q = m + 1 := ⟨q - 1, by omega⟩
  have hm1 : (q : Int) - 1 = (m : Int) := by omega
  have hmw : IntKind.i64.wrap ((q : Int) - 1) = (m : Int) := by rw [IntWalk.i64_in _ (by omega)]; omega
  have hmn : ((m : Int)).toNat = m := by omega
  have hm0 : (0 : Int) ≤ m := by omega
  have HQM := Lib.hid hqm
  have hmq : m < q := by omega
  clear hqm hne
  have O1 := Lib.hid (ownS_new w1 w1.heap.size (Nat.le_refl _))
  go_wp2_with fail
  go_loopw [5, 6] (fun v i wr => ∃ (k : Nat) (L : List Sg), i = .int .i64 k ∧ k ≤ m ∧ Hid (RdTo l k L) ∧ Hid (TxTo W k L) ∧ OwnS wr w1.heap.size v L ∧ Later w1 wr) (fun _ i _ => m - (intOf i).toNat)
  case atStart => exact ⟨0, [], rfl, by omega, Lib.hid (rdTo_nil l), Lib.hid (by unfold TxTo; simp), O1.out, (Later.refl _).alloc _⟩
  case round =>
    obtain ⟨k, L, rfl, hk, HR, HTX, ho, hb⟩ := hrel
    have O2 := Lib.hid ho; have B12 := Lib.hid hb
    have B2 : Hid (Later w wr) := Lib.hid (Later.trans B1.out hb)
    have V2 := Lib.hid (V1.out.later hb)
    clear ho hb
    have hz2 := V2.out.1
    by_cases hlt : k < m
    · obtain ⟨wk, hwk⟩ : ∃ u, u = W.getD k [] := ⟨_, rfl⟩
      have hwl := hmax.out k
      rw [← hwk] at hwl
      have hwl' : (tx wk).size ≤ 1048576 := by rw [tx_size]; omega
      have cw : wr.cell? ⟨g, k, none⟩ = some (.string (tx wk)) := by rw [hwk]; exact (HWD.out.later B12.out).2.2.2 k (by omega)
      have hgr := (HWD.out.later B12.out).2.2.1
      have hkq : k < q := by omega
      have hk1 : ((k : Int) + 1 < (q : Int)) = True := by simp; omega
      have HWK := Lib.hid hwk
      clear hwk
      go_wp2_with fail
      refine (s_Segment _ _ hwl').mono ?_
      rintro e w4 ⟨hb4, hres⟩
      have B4 := Lib.hid (Later.trans B2.out (Later.trans (by repeat (first | (with_reducible exact Later.refl _) | (with_reducible refine Later.drewN ?_ _) | (with_reducible refine Later.drew ?_))) hb4))
      have B14 := Lib.hid (Later.trans B12.out (Later.trans (by repeat (first | (with_reducible exact Later.refl _) | (with_reducible refine Later.drewN ?_ _) | (with_reducible refine Later.drew ?_))) hb4))
      have V4 := Lib.hid (V2.out.later (Later.trans (by repeat (first | (with_reducible exact Later.refl _) | (with_reducible refine Later.drewN ?_ _) | (with_reducible refine Later.drew ?_))) hb4))
      have O4 := Lib.hid (O2.out.below (Later.trans (by repeat (first | (with_reducible exact Later.refl _) | (with_reducible refine Later.drewN ?_ _) | (with_reducible refine Later.drew ?_))) hb4))
      have hz4 := V4.out.1
      have hz4b : w.heap.size ≠ w4.heap.size := by omega
      have b6 : w1.heap.size ≤ w4.heap.size := B14.out.size
      clear hb4 cw
      rcases hres with ⟨x, hx, rfl⟩ | ⟨hx, rfl⟩
      · have HR' := Lib.hid (rdTo_snoc HLO.out HR.out (by rw [← HQ.out, HQM.out]; omega) (by rw [← HWK.out]; exact rsg_words hx))
        have hkW : k < W.length := by rw [← HQ.out, HQM.out]; omega
        have HT' : Hid (TxTo W (k + 1) (L ++ [x])) := Lib.hid (txTo_snoc HTX.out hkW (by rw [← HWK.out]; exact hx))
        clear hkW
        have hLn : L.length + 1 ≤ 1000000000 := by have := HR.out.1; omega
        have hin := isWords_in hx
        clear hx
        obtain ⟨yk, yl, yr, ya, yb, yc, yd⟩ := x
        unfold agg7
        go_wp2_with (at_builtin; go_must (refine appS rfl _ _ rfl w1.heap.size _ _ _ L [⟨yk, yl, yr, ya, yb, yc, yd⟩] 1 _ rfl rfl (O4.out.below ((Later.refl _).alloc _)) rfl (by first | rfl | (rw [World.size_alloc]; rfl)) (fun x hx => by simp at hx; subst hx; exact hin) hLn (by rw [World.size_alloc]; omega) ?_; intro v' w7 ho hg; have O7 := Lib.hid ho; have B17 : Hid (Later w1 w7) := Lib.hid (Below.grown (B14.out.alloc _) hg (by rw [World.size_alloc]; omega) (fun j hj => (O4.out.lt j hj).1)); clear ho hg))
        go_roundw
        case rel => exact ⟨k + 1, _, by go_num, by omega, HR', HT', O7.out, B17.out⟩
        case measure => simp [intOf]; omega
      · have hkW : k + 1 < W.length := by rw [← HQ.out, HQM.out]; omega
        have HX := Lib.hid (rd_bad (y := sg0) HLO.out hkW (by rw [← HWK.out]; exact rsg_nowords hx))
        clear hkW
        have v0 := V4.out.2.1; have v1 := V4.out.2.2
        clear hx
        unfold agg7 sg0
        go_wp2_with fail
        refine bodyPost_ret (v := .tuple #[.agg #[.slice none 0 0], .bool false]) (by simp [results, Tryd.results4, go_sem, *] <;> omega) rfl ⟨(by repeat (first | (with_reducible exact Later.refl _) | (with_reducible exact Hid.out (by assumption)) | (with_reducible refine Later.alloc ?_ _) | (with_reducible refine Later.setCell ?_ (by simp; omega) _) | (with_reducible refine Later.setCell ?_ (by simp) _) | (with_reducible refine Later.drewN ?_ _) | (with_reducible refine Later.drew ?_) | (with_reducible refine Later.trans ?_ (Hid.out (by assumption))))), .inr ⟨HX.out, rfl⟩⟩
    · obtain rfl : k = m := by omega
      have hk1 : ((k : Int) + 1 < (q : Int)) = False := by simp; omega
      obtain ⟨a, cp, rfl, hcp, hsg, hab⟩ := O2.out.sgs
      have HSG := Lib.hid hsg
      clear hsg hab
      obtain ⟨wk, hwk⟩ : ∃ u, u = W.getD k [] := ⟨_, rfl⟩
      have cw : wr.cell? ⟨g, k, none⟩ = some (.string (tx wk)) := by rw [hwk]; exact (HWD.out.later B12.out).2.2.2 k (by omega)
      have hgr := (HWD.out.later B12.out).2.2.1
      have hgz : g ≠ wr.heap.size := by omega
      have r0 := V2.out.2.1; have r1 := V2.out.2.2
      have hz2b : w.heap.size ≠ wr.heap.size := by omega
      have HEND := Lib.hid (rd_end HLO.out HR.out (by rw [← HQ.out]; exact HQM.out))
      by_cases h0 : wk = []
      · have HLL : Hid (l = linTx L) := Lib.hid (tx_end HWd.out HTX.out (by rw [← HQ.out]; exact HQM.out) (by rw [← hwk]; exact h0))
        subst h0
        have e0 : ((tx []).toList).isEmpty = true := by rw [Lib.toList_data]; rfl
        clear hwk
        cases hL : layB L
        · have HX := Lib.hid (rd_no HEND.out hL)
          go_wp2_with (go_at_call 11; refine (s_IsLayout _ _ _ L _ (HSG.out.later (by repeat (first | (with_reducible exact Later.refl _) | (with_reducible refine Later.alloc ?_ _) | (with_reducible refine Later.drewN ?_ _) | (with_reducible refine Later.drew ?_))))).mono ?_; rw [hL]; rintro e w5 ⟨rfl, hb5⟩; have hb5' := Later.trans ((Later.refl wr).alloc _) hb5; have c9 := hb5.cell (p := ⟨wr.heap.size, 0, none⟩) (by simp); have B5 := Lib.hid (Later.trans B2.out hb5'); have V5 := Lib.hid (V2.out.later hb5'); have O5 := Lib.hid (O2.out.below hb5'); have r0 := V5.out.2.1; have r1 := V5.out.2.2; clear hb5 hb5')
          refine bodyPost_ret (v := .tuple #[.agg #[.slice none 0 0], .bool false]) (by simp [results, Tryd.results4, go_sem, *] <;> omega) rfl ⟨(by repeat (first | (with_reducible exact Later.refl _) | (with_reducible exact Hid.out (by assumption)) | (with_reducible refine Later.alloc ?_ _) | (with_reducible refine Later.setCell ?_ (by simp; omega) _) | (with_reducible refine Later.setCell ?_ (by simp) _) | (with_reducible refine Later.drewN ?_ _) | (with_reducible refine Later.drew ?_) | (with_reducible refine Later.trans ?_ (Hid.out (by assumption))))), .inr ⟨HX.out, rfl⟩⟩
        · go_wp2_with (go_at_call 11; refine (s_IsLayout _ _ _ L _ (HSG.out.later (by repeat (first | (with_reducible exact Later.refl _) | (with_reducible refine Later.alloc ?_ _) | (with_reducible refine Later.drewN ?_ _) | (with_reducible refine Later.drew ?_))))).mono ?_; rw [hL]; rintro e w5 ⟨rfl, hb5⟩; have hb5' := Later.trans ((Later.refl wr).alloc _) hb5; have c9 := hb5.cell (p := ⟨wr.heap.size, 0, none⟩) (by simp); have B5 := Lib.hid (Later.trans B2.out hb5'); have V5 := Lib.hid (V2.out.later hb5'); have O5 := Lib.hid (O2.out.below hb5'); have r0 := V5.out.2.1; have r1 := V5.out.2.2; clear hb5 hb5')
          refine bodyPost_ret (v := .tuple #[.agg #[.slice a L.length cp], .bool true]) (by simp [results, Tryd.results4, go_sem, *] <;> omega) rfl ⟨(by repeat (first | (with_reducible exact Later.refl _) | (with_reducible exact Hid.out (by assumption)) | (with_reducible refine Later.alloc ?_ _) | (with_reducible refine Later.setCell ?_ (by simp; omega) _) | (with_reducible refine Later.setCell ?_ (by simp) _) | (with_reducible refine Later.drewN ?_ _) | (with_reducible refine Later.drew ?_) | (with_reducible refine Later.trans ?_ (Hid.out (by assumption))))), .inl ⟨L, _, hL, HLL.out, rfl, (O5.out.far (by omega) _ _).mono (by omega)⟩⟩
      · have HX := Lib.hid (rd_last HLO.out (by rw [← HQ.out]; exact HQM.out) (by rw [← hwk]; exact h0))
        have e0 : ((tx wk).toList).isEmpty = false := by
          rw [Lib.toList_data]
          show wk.isEmpty = false
          simpa using h0
        clear hwk h0
        go_wp2_with fail
        refine bodyPost_ret (v := .tuple #[.agg #[.slice none 0 0], .bool false]) (by simp [results, Tryd.results4, go_sem, *] <;> omega) rfl ⟨(by repeat (first | (with_reducible exact Later.refl _) | (with_reducible exact Hid.out (by assumption)) | (with_reducible refine Later.alloc ?_ _) | (with_reducible refine Later.setCell ?_ (by simp; omega) _) | (with_reducible refine Later.setCell ?_ (by simp) _) | (with_reducible refine Later.drewN ?_ _) | (with_reducible refine Later.drew ?_) | (with_reducible refine Later.trans ?_ (Hid.out (by assumption))))), .inr ⟨HX.out, rfl⟩⟩
end Go.Proofs.YtkhhoajoionlfaaDoor
