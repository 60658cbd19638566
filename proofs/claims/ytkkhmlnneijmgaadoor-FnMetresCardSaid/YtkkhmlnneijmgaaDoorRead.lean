/- The contracts of reading a length's text, of the program and of the model. -/
import Derived.Test.YtkkhmlnneijmgaaDoorStr
namespace Go.Proofs.YtkkhmlnneijmgaaDoor
open Go.RowKit Go.Shelf
set_option maxHeartbeats 2000000
set_option linter.unusedVariables false
set_option linter.unusedSimpArgs false
/-- the two errors that strconv hands back -/
def Errs (w : World) : Prop := (∃ tp p, w.var? Tryd.prog "strconv.ErrSyntax" = some #[.iface tp p]) ∧ ∃ tp p, w.var? Tryd.prog "strconv.ErrRange" = some #[.iface tp p]
theorem gSyn : Tryd.prog.globalNamed "strconv.ErrSyntax" = some 1 := by kernel_rfl
theorem gRan : Tryd.prog.globalNamed "strconv.ErrRange" = some 2 := by kernel_rfl
theorem var_lt {w : World} {n : String} {g : Nat} {cs : Array Value} (hg : Tryd.prog.globalNamed n = some g) (h : w.var? Tryd.prog n = some cs) (hc : 0 < cs.size) : g < w.heap.size := by
  have h0 := World.var?_cell hg h 0
  rw [Array.getElem?_eq_getElem hc] at h0
  exact Go.Lib.lt_of_cell h0
theorem Errs.later {w w' : World} (h : Errs w) (hb : Below w.heap.size w w') : Errs w' := by
  obtain ⟨⟨t1, p1, h1⟩, ⟨t2, p2, h2⟩⟩ := h
  exact ⟨⟨t1, p1, var?_below hb gSyn (var_lt gSyn h1 (by simp)) h1⟩, ⟨t2, p2, var?_below hb gRan (var_lt gRan h2 (by simp)) h2⟩⟩
theorem i_Parse_ok (t : ByteArray) (w : World) (hs : t.size ≤ 281474976710656) (v : Int) (hr : Lib.parseIntB 64 t.data.toList = .ok v) :
    Calls Tryd.prog 17 #[.string t, .int .i64 10, .int .i64 64] w fun e w' => e = .returned (.tuple #[.int .i64 v, .nilIface]) ∧ Below w.heap.size w w' :=
  (Any.strconv_ParseInt_10_at64_ok Tryd.laysC174 t (by omega) v hr w).mono fun e w' ⟨he, hw⟩ => ⟨he, by
    rcases hw with rfl | ⟨s, rfl⟩
    · exact Below.refl _ _
    · exact Go.Lib.bytesWorld_below _ _ _⟩
def Failed (w : World) (e : Ending) (w' : World) : Prop := ∃ x N, e = .returned (.tuple #[.int .i64 x, .iface 60 (.pointer (some ⟨N, 0, none⟩))]) ∧ Below w.heap.size w w'
theorem i_Parse_err (t : ByteArray) (w : World) (hs : t.size ≤ 281474976710656) (he : Errs w) (hn : ∀ v, Lib.parseIntB 64 t.data.toList ≠ .ok v) :
    Calls Tryd.prog 17 #[.string t, .int .i64 10, .int .i64 64] w (Failed w) := by
  obtain ⟨⟨t1, p1, h1⟩, ⟨t2, p2, h2⟩⟩ := he
  rcases hr : Lib.parseIntB 64 t.data.toList with v | _ | _
  · exact absurd hr (hn v)
  · exact (Any.strconv_ParseInt_10_at64_syntax_var Tryd.laysC174 t hs hr t1 p1 w h1).mono fun e w' ⟨N, he, _, _, hb⟩ => ⟨_, N, he, hb⟩
  · exact (Any.strconv_ParseInt_10_at64_range_var Tryd.laysC174 t hs hr t2 p2 w h2).mono fun e w' ⟨N, he, _, _, hb⟩ => ⟨_, N, he, hb⟩
theorem size_undot (s : ByteArray) (h4 : 4 ≤ s.size) : (s.extract 0 (s.size - 4) ++ s.extract (s.size - 4 + 1) s.size).data.toList = undot s.data.toList ∧ (s.extract 0 (s.size - 4) ++ s.extract (s.size - 4 + 1) s.size).size ≤ s.size := by
  have e : s.data.toList.length = s.size := by simp
  have h : (s.extract 0 (s.size - 4) ++ s.extract (s.size - 4 + 1) s.size).data.toList = undot s.data.toList := by
    rw [ByteArray.data_append, Array.toList_append, Lib.extract_data, Lib.extract_data]
    unfold undot
    rw [e, show s.size - 4 + 1 = s.size - 3 by omega, List.drop_zero, show s.size - 4 - 0 = s.size - 4 by omega]
    rw [List.take_of_length_le (l := List.drop (s.size - 3) s.data.toList) (by simp)]
  refine ⟨h, ?_⟩
  have e2 : (s.extract 0 (s.size - 4) ++ s.extract (s.size - 4 + 1) s.size).size = (undot s.data.toList).length := by rw [← h]; simp
  rw [e2]; unfold undot; rw [List.length_append, List.length_take, List.length_drop, e]; omega
theorem tx_eq (s : ByteArray) (l : List UInt8) : tx l = s ↔ l = s.data.toList := by
  constructor
  · rintro rfl; rfl
  · rintro rfl; rfl
/-- what both readings hand back -/
def ReadsM (w : World) (s : ByteArray) (e : Ending) (w' : World) : Prop :=
  Below w.heap.size w w' ∧ ((∃ v, isVB v = true ∧ mText v = s.data.toList ∧ e = .returned (.tuple #[.int .i64 v, .bool true])) ∨ (¬ IsM s.data.toList ∧ e = .returned (.tuple #[.int .i64 0, .bool false])))
theorem i_ReadMetres (s : ByteArray) (w : World) (hs : s.size ≤ 1048576) (ht : Tab w) (he : Errs w) :
    Calls Tryd.prog 9 #[.string s] w (ReadsM w s) := by
  have HT := Lib.hid ht; have HE := Lib.hid he
  clear ht he
  by_cases h4 : s.size < 4
  · have H : Hid (¬ IsM s.data.toList) := Lib.hid (by
      rintro ⟨v, hv, ht⟩
      have := (undot_parse v hv).2
      rw [ht] at this
      have e : s.data.toList.length = s.size := by simp
      omega)
    go_enter Tryd.func9, Tryd.ntmps9
    go_wp2_with fail
    go_ret2
    exact ⟨Below.refl _ _, .inr ⟨H.out, rfl⟩⟩
  · obtain ⟨hu, hus⟩ := size_undot s (by omega)
    have w1 : IntKind.i64.wrap ((s.size : Int) - 4 + 1) = (s.size : Int) - 4 + 1 := IntWalk.i64_in _ (by omega)
    have w2 : (0 : Int) ≤ (s.size : Int) - 4 + 1 := by omega
    have w3 : (s.size : Int) - 4 + 1 ≤ (s.size : Int) := by omega
    have w4 : (0 : Int) ≤ (s.size : Int) - 4 := by omega
    have w5 : (s.size : Int) - 4 ≤ (s.size : Int) := by omega
    have w6 : ((s.size : Int) - 4 + 1).toNat = s.size - 4 + 1 := by omega
    have w7 : ((s.size : Int) - 4).toNat = s.size - 4 := by omega
    have HU := Lib.hid hu
    clear hu
    by_cases hp : ∃ v, Lib.parseIntB 64 (undot s.data.toList) = .ok v
    · obtain ⟨v, hv⟩ := hp
      have hP := i_Parse_ok (s.extract 0 (s.size - 4) ++ s.extract (s.size - 4 + 1) s.size) w.drew (by omega) v (by rw [HU.out]; exact hv)
      have HP := Lib.hid hP
      have HV := Lib.hid hv
      clear hP hv hus
      by_cases hm : mText v = s.data.toList
      · have hx : (!(tx (mText v)).toList == s.toList) = false := by rw [(tx_eq s _).2 hm]; simp
        have hvb : isVB v = true := by
          by_cases hc : isVB v = true
          · exact hc
          · unfold mText at hm; rw [if_neg hc] at hm
            have e : s.data.toList.length = s.size := rfl
            rw [← hm] at e; have e' : 0 = s.size := e; omega
        have HM := Lib.hid hm; have HB := Lib.hid hvb
        clear hm hvb
        go_enter Tryd.func9, Tryd.ntmps9
        go_wp2_with fail
        go_region_with (go_at_call 17; refine HP.out.mono ?_; rintro e w1 ⟨rfl, hb⟩)
        have HW : Hid (Below w.heap.size w w1) := Lib.hid ((Below.refl _ w).drew.trans hb)
        have HTT := Lib.hid (HT.out.later HW.out)
        clear hb
        go_wp2_with fail
        refine (i_MetresText _ _ HTT.out).mono ?_
        rintro e w2 ⟨rfl, hb2⟩
        have HW2 := Lib.hid (HW.out.trans (hb2.mono HW.out.size))
        clear hb2
        go_wp2_with fail
        go_ret2
        exact ⟨HW2.out, .inl ⟨v, HB.out, HM.out, rfl⟩⟩
      · have hx : (!(tx (mText v)).toList == s.toList) = true := by
          have hne : ¬ (tx (mText v)).toList = s.toList := by
            rw [Lib.toList_data, Lib.toList_data]; intro h; exact hm h
          simp [hne]
        have HN : Hid (¬ IsM s.data.toList) := Lib.hid (by
          rintro ⟨u, hu, ht⟩
          have := (undot_parse u hu).1
          rw [ht, HV.out] at this
          cases this
          exact hm ht)
        clear hm
        go_enter Tryd.func9, Tryd.ntmps9
        go_wp2_with fail
        go_region_with (go_at_call 17; refine HP.out.mono ?_; rintro e w1 ⟨rfl, hb⟩)
        have HW : Hid (Below w.heap.size w w1) := Lib.hid ((Below.refl _ w).drew.trans hb)
        have HTT := Lib.hid (HT.out.later HW.out)
        clear hb
        go_wp2_with fail
        refine (i_MetresText _ _ HTT.out).mono ?_
        rintro e w2 ⟨rfl, hb2⟩
        have HW2 := Lib.hid (HW.out.trans (hb2.mono HW.out.size))
        clear hb2
        go_wp2_with fail
        go_ret2
        exact ⟨HW2.out, .inr ⟨HN.out, rfl⟩⟩
    · have hP := i_Parse_err (s.extract 0 (s.size - 4) ++ s.extract (s.size - 4 + 1) s.size) w.drew (by omega) HE.out (by rw [HU.out]; intro v hv; exact hp ⟨v, hv⟩)
      have HP := Lib.hid hP
      have HN : Hid (¬ IsM s.data.toList) := Lib.hid (by
        rintro ⟨u, hu, ht⟩
        have := (undot_parse u hu).1
        rw [ht] at this
        exact hp ⟨u, this⟩)
      clear hP hp hus
      go_enter Tryd.func9, Tryd.ntmps9
      go_wp2_with fail
      go_region_with (go_at_call 17; refine HP.out.mono ?_; rintro e w1 ⟨x, N, rfl, hb⟩)
      have HW : Hid (Below w.heap.size w w1) := Lib.hid ((Below.refl _ w).drew.trans hb)
      clear hb
      go_wp2_with fail
      go_ret2
      exact ⟨HW.out, .inr ⟨HN.out, rfl⟩⟩
theorem read_fin (l : List UInt8) (k : Nat) (hk : k = l.length ∨ 14 ≤ (dfold (l.take k)).2) (r : Int) (hr : r = if l.head? = some 45 then -(dfold (l.take k)).1 else (dfold (l.take k)).1) (hne : ¬ mText r = l) : ¬ IsM l := by
  rintro ⟨v, hv, ht⟩
  obtain ⟨a, b, c⟩ := dfold_text v hv
  rw [ht] at a b c
  have h1 := dfold_take l k
  have hk' : k = l.length := by rcases hk with h | h <;> omega
  rw [List.take_of_length_le (by omega), a] at hr
  apply hne
  rw [← ht]
  congr 1
  by_cases hv0 : v < 0
  · rw [if_pos (c.2 hv0)] at hr; omega
  · rw [if_neg (fun h => hv0 (c.1 h))] at hr; omega
theorem isVB_of_text {r : Int} {l : List UInt8} (h : mText r = l) (hl : l ≠ []) : isVB r = true := by
  by_cases hc : isVB r = true
  · exact hc
  · unfold mText at h; rw [if_neg hc] at h; exact absurd h.symm hl
theorem s_ReadMetres (s : ByteArray) (w : World) (hs : s.size ≤ 1048576) :
    Calls Tryd.prog 11 #[.string s] w (ReadsM w s) := by
  have step : ∀ k (h : k < s.size), dfold (s.data.toList.take (k + 1)) = dst (dfold (s.data.toList.take k)) s[k] := by
    intro k hk
    have hk' : k < s.data.toList.length := hk
    rw [List.take_succ_eq_append_getElem hk', dfold_snoc]
    rfl
  have head : ∀ h : 0 < s.size, s.data.toList.head? = some s[0] := by
    intro h
    have hk' : 0 < s.data.toList.length := h
    rw [List.head?_eq_getElem?, List.getElem?_eq_getElem hk']
    rfl
  have hlen : s.data.toList.length = s.size := rfl
  obtain ⟨l, hl⟩ : ∃ l, l = s.data.toList := ⟨_, rfl⟩
  rw [← hl] at step head hlen
  have HL := Lib.hid hl
  have HLEN := Lib.hid hlen
  have ST := Lib.hid step
  have HD := Lib.hid head
  clear hl hlen step head
  go_enter Tryd.func11, Tryd.ntmps11
  go_wp2_with fail
  go_loop [4, 5, 6] (fun n d i => ∃ k : Nat, k ≤ s.size ∧ i = .int .i64 k ∧ n = .int .i64 (dfold (l.take k)).1 ∧ d = .int .i64 (dfold (l.take k)).2 ∧ (dfold (l.take k)).2 ≤ 14) (fun _ _ i => s.size - (intOf i).toNat)
  case atStart => exact ⟨0, by omega, rfl, rfl, rfl, by rw [List.take_zero]; decide⟩
  case round =>
    obtain ⟨k, hk, rfl, rfl, rfl, h14⟩ := hrel
    obtain ⟨b0, b1⟩ := dfold_14 _ h14
    have d0 := dfold_nn (l.take k)
    have FIN := Lib.hid (read_fin l k)
    obtain ⟨x, hx⟩ : ∃ x, x = (dfold (l.take k)).1 := ⟨_, rfl⟩
    obtain ⟨y, hy⟩ : ∃ y, y = (dfold (l.take k)).2 := ⟨_, rfl⟩
    rw [← hx] at b0 b1 ⊢
    rw [← hy] at h14 d0 ⊢
    have HX := Lib.hid hx
    have HY := Lib.hid hy
    clear hx hy
    by_cases hc : k < s.size ∧ y < 14
    · obtain ⟨h1, h2⟩ := hc
      go_wp2_with fail
      all_goals
        go_round
        case rel =>
          have e := ST.out k h1
          unfold dst at e
          first
            | (rw [if_pos ⟨by omega, by omega⟩] at e
               exact ⟨k + 1, by omega, by go_num, by rw [e, ← HX.out], by rw [e, ← HY.out], by rw [e]; show (dfold (l.take k)).2 + 1 ≤ 14; rw [← HY.out]; omega⟩)
            | (rw [if_neg (by omega)] at e
               exact ⟨k + 1, by omega, by go_num, by rw [e, ← HX.out], by rw [e, ← HY.out], by rw [e, ← HY.out]; omega⟩)
        case measure => simp [intOf]; omega
    · have HK : Hid (k = l.length ∨ 14 ≤ (dfold (l.take k)).2) := Lib.hid (by rw [HLEN.out, ← HY.out]; omega)
      have ht : (k < s.size ∧ 14 ≤ y) ∨ ¬ k < s.size := by omega
      clear hc
      by_cases hz : 0 < s.size
      · have hne : s.toList.isEmpty = false := by
          rw [Lib.toList_data, ← HL.out]
          cases l with
          | nil => have := HLEN.out; simp at this; omega
          | cons c r => rfl
        have hne' : (!s.toList.isEmpty) = true := by rw [hne]; rfl
        have HNE : Hid (l ≠ []) := Lib.hid (by intro h; have := HLEN.out; rw [h] at this; simp at this; omega)
        by_cases h45 : s[0].toNat = 45
        · have HR : Hid (-x = if l.head? = some 45 then -(dfold (l.take k)).1 else (dfold (l.take k)).1) := Lib.hid (by
            rw [HD.out hz, if_pos (by congr 1; exact UInt8.toNat_inj.1 h45), ← HX.out])
          have e45 : ((s[0].toNat : Int) == 45) = true := by simp [h45]
          clear h45
          rcases ht with ⟨t1, t2⟩ | t1
          all_goals
            go_wp2_with fail
            refine (s_MetresText _ _).mono ?_
            rintro e w1 ⟨rfl, hb⟩
            have HW := Lib.hid hb
            clear hb
            by_cases hm : mText (-x) = l
            · have hx : (!(tx (mText (-x))).toList == s.toList) = false := by
                rw [Lib.toList_data, Lib.toList_data, ← HL.out]
                have : (tx (mText (-x))).data.toList = mText (-x) := rfl
                rw [this, hm]; simp
              have HM := Lib.hid hm
              clear hm
              go_wp2_with fail
              go_ret2
              exact ⟨HW.out, .inl ⟨_, isVB_of_text HM.out HNE.out, by rw [HM.out, HL.out], rfl⟩⟩
            · have hx : (!(tx (mText (-x))).toList == s.toList) = true := by
                rw [Lib.toList_data, Lib.toList_data, ← HL.out]
                have e1 : (tx (mText (-x))).data.toList = mText (-x) := rfl
                rw [e1]; simp [hm]
              have HM := Lib.hid hm
              clear hm
              go_wp2_with fail
              go_ret2
              exact ⟨HW.out, .inr ⟨by rw [← HL.out]; exact FIN.out HK.out _ HR.out HM.out, rfl⟩⟩
        · have HR : Hid (x = if l.head? = some 45 then -(dfold (l.take k)).1 else (dfold (l.take k)).1) := Lib.hid (by
            rw [HD.out hz, if_neg (by intro h; apply h45; have := Option.some.inj h; rw [this]; rfl), ← HX.out])
          have e45 : ((s[0].toNat : Int) == 45) = false := by simp; omega
          clear h45
          rcases ht with ⟨t1, t2⟩ | t1
          all_goals
            go_wp2_with fail
            refine (s_MetresText _ _).mono ?_
            rintro e w1 ⟨rfl, hb⟩
            have HW := Lib.hid hb
            clear hb
            by_cases hm : mText x = l
            · have hx : (!(tx (mText x)).toList == s.toList) = false := by
                rw [Lib.toList_data, Lib.toList_data, ← HL.out]
                have : (tx (mText x)).data.toList = mText x := rfl
                rw [this, hm]; simp
              have HM := Lib.hid hm
              clear hm
              go_wp2_with fail
              go_ret2
              exact ⟨HW.out, .inl ⟨_, isVB_of_text HM.out HNE.out, by rw [HM.out, HL.out], rfl⟩⟩
            · have hx : (!(tx (mText x)).toList == s.toList) = true := by
                rw [Lib.toList_data, Lib.toList_data, ← HL.out]
                have e1 : (tx (mText x)).data.toList = mText x := rfl
                rw [e1]; simp [hm]
              have HM := Lib.hid hm
              clear hm
              go_wp2_with fail
              go_ret2
              exact ⟨HW.out, .inr ⟨by rw [← HL.out]; exact FIN.out HK.out _ HR.out HM.out, rfl⟩⟩
      · have hemp : s.toList.isEmpty = true := by
          rw [Lib.toList_data, ← HL.out]
          cases l with
          | nil => rfl
          | cons c r => have := HLEN.out; simp at this; omega
        have HN : Hid (¬ IsM s.data.toList) := Lib.hid (by
          rintro ⟨v, hv, ht⟩
          have := (undot_parse v hv).2
          rw [ht] at this
          have e : s.data.toList.length = s.size := rfl
          omega)
        rcases ht with ⟨t1, t2⟩ | t1
        · omega
        · go_wp2_with fail
          go_ret2
          exact ⟨Below.refl _ _, .inr ⟨HN.out, rfl⟩⟩
end Go.Proofs.YtkkhmlnneijmgaaDoor
