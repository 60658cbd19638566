/- The walk of the law on texts of lengths: a length is recovered from its text. -/
import Derived.Test.YtkkhmlnneijmgaaDoorDam
import Derived.Test.YtkkhmlnneijmgaaDoorMet
namespace Go.Proofs.YtkkhmlnneijmgaaDoor
open Go.RowKit
set_option maxHeartbeats 4000000
set_option linter.unusedVariables false
set_option linter.unusedSimpArgs false
theorem Bytes.later {w w' : World} {a : Option Addr} {len : Nat} (h : Bytes w a len) (hb : Below w.heap.size w w') : Bytes w' a len := by
  refine ⟨h.1, fun k hk => ?_⟩
  obtain ⟨b, off, x, rfl, hc, x0, x1⟩ := h.2 k hk
  exact ⟨b, off, x, rfl, by rw [hb.cell (p := ⟨b, off + k, none⟩) (cell_lt hc)]; exact hc, x0, x1⟩
theorem mText_ne {v : Int} (hv : isVB v = true) : mText v ≠ [] := by
  have := (undot_parse v hv).2
  intro h; rw [h] at this; simp at this
theorem walk_FnMetres (a0 : Option Addr) (len0 cap0 : Nat) (z0 : List Int) (w : World) (w0 : IsRow .u8 w a0 len0 cap0 z0) (ht : Tab w ∧ Errs w) :
    Calls Tryd.prog 3 #[.slice a0 len0 cap0] w fun e w' => e = .returned (.bool true) ∧ Below w.heap.size w w' := by
  have HS := Lib.hid (isRow_bytes w0)
  have HT := Lib.hid ht.1
  have HE := Lib.hid ht.2
  clear w0 ht
  by_cases hbig : 4096 < len0
  · go_enter Tryd.func3, Tryd.ntmps3
    go_wp2_with fail
    refine (l_big _ _ _ _).mono ?_
    rintro e w' ⟨rfl, rfl⟩
    go_wp2
    go_ret
    exact ⟨rfl, Below.refl _ _⟩
  · go_enter Tryd.func3, Tryd.ntmps3
    go_wp2_with fail
    refine (l_big _ _ _ _).mono ?_
    rintro e w' ⟨rfl, rfl⟩
    go_wp2_with fail
    refine (s_DrawMetresText _ _ _ _ HS.out).mono ?_
    rintro e w1 ⟨n, rfl, hn, bel⟩
    have B1 := Lib.hid bel; have S1 := Lib.hid (HS.out.later bel); have T1 := Lib.hid (HT.out.later bel); have E1 := Lib.hid (HE.out.later bel)
    clear bel hn
    go_wp2_with fail
    refine (i_MetresText _ _ T1.out).mono ?_
    rintro e w2 ⟨rfl, bel⟩
    have B2 := Lib.hid (B1.out.trans (bel.mono B1.out.size)); have S2 := Lib.hid (S1.out.later bel); have T2 := Lib.hid (T1.out.later bel); have E2 := Lib.hid (E1.out.later bel)
    clear bel
    have hz := mText_len n
    go_wp2_with fail
    refine (i_ReadMetres _ _ (by omega) T2.out E2.out).mono ?_
    rintro e w3 ⟨bel, hr⟩
    have B3 := Lib.hid (B2.out.trans (bel.mono B2.out.size)); have S3 := Lib.hid (S2.out.later bel); have T3 := Lib.hid (T2.out.later bel); have E3 := Lib.hid (E2.out.later bel)
    clear bel
    -- what was read back
    have hr' : (isVB n = true ∧ e = .returned (.tuple #[.int .i64 n, .bool true])) ∨ (isVB n = false ∧ e = .returned (.tuple #[.int .i64 0, .bool false])) := by
      by_cases hv : isVB n = true
      · rcases hr with ⟨v, h1, h2, h3⟩ | ⟨h1, h2⟩
        · have : v = n := isM_one h1 hv h2 rfl
          subst this; exact .inl ⟨hv, h3⟩
        · exact absurd ⟨n, hv, rfl⟩ h1
      · have hv0 : isVB n = false := by simpa using hv
        rcases hr with ⟨v, h1, h2, h3⟩ | ⟨h1, h2⟩
        · exfalso
          have e0 : (tx (mText n)).data.toList = mText n := rfl
          rw [e0] at h2
          have e1 : mText n = [] := by unfold mText; rw [if_neg hv]
          exact mText_ne h1 (h2.trans e1)
        · exact .inr ⟨hv0, h2⟩
    have hemp : (tx (mText n)).toList.isEmpty = !isVB n := by
      rw [Lib.toList_data]
      show (mText n).isEmpty = _
      by_cases hv : isVB n = true
      · rw [hv]; have := mText_ne hv; cases hm : mText n with
        | nil => exact absurd hm this
        | cons c r => rfl
      · have e1 : mText n = [] := by unfold mText; rw [if_neg hv]
        rw [e1]; simp [hv]
    clear hr
    rcases hr' with ⟨hv, rfl⟩ | ⟨hv, rfl⟩
    all_goals
      rw [hv] at hemp
      go_wp2_with fail
      refine (s_DrawReadMetres _ _ _ _ S3.out).mono ?_
      rintro e w4 ⟨s, rfl, hs, bel⟩
      have B4 := Lib.hid (B3.out.trans (bel.mono B3.out.size)); have T4 := Lib.hid (T3.out.later bel); have E4 := Lib.hid (E3.out.later bel)
      clear bel
      go_wp2_with fail
      refine (i_ReadMetres _ _ (by omega) T4.out E4.out).mono ?_
      rintro e w5 ⟨bel, hr⟩
      have B5 := Lib.hid (B4.out.trans (bel.mono B4.out.size)); have T5 := Lib.hid (T4.out.later bel)
      clear bel
      rcases hr with ⟨v, h1, h2, rfl⟩ | ⟨h1, rfl⟩
      · have H1 := Lib.hid h1; have H2 := Lib.hid h2
        clear h1 h2
        go_wp2_with fail
        refine (s_ReadMetres _ _ (by omega)).mono ?_
        rintro e w6 ⟨bel, hr⟩
        have B6 := Lib.hid (B5.out.trans (bel.mono B5.out.size)); have T6 := Lib.hid (T5.out.later bel)
        clear bel
        rcases hr with ⟨u, h1, h2, rfl⟩ | ⟨h1, rfl⟩
        · have : u = v := isM_one h1 H1.out h2 H2.out
          subst this
          clear h1 h2
          have hx : ((tx (mText u)).toList == s.toList) = true := by
            rw [Lib.toList_data, Lib.toList_data]
            have e1 : (tx (mText u)).data.toList = mText u := rfl
            rw [e1, H2.out]; simp
          go_wp2_with fail
          refine (s_MetresText _ _).mono ?_
          rintro e w7 ⟨rfl, bel⟩
          have B7 := Lib.hid (B6.out.trans (bel.mono B6.out.size)); have T7 := Lib.hid (T6.out.later bel)
          clear bel
          go_wp2_with fail
          refine (i_MetresText _ _ T7.out).mono ?_
          rintro e w8 ⟨rfl, bel⟩
          have B8 := Lib.hid (B7.out.trans (bel.mono B7.out.size))
          clear bel
          go_wp2_with fail
          go_ret
          exact ⟨rfl, B8.out⟩
        · exact absurd ⟨v, H1.out, H2.out⟩ h1
      · have H1 := Lib.hid h1
        clear h1
        go_wp2_with fail
        refine (s_ReadMetres _ _ (by omega)).mono ?_
        rintro e w6 ⟨bel, hr⟩
        have B6 := Lib.hid (B5.out.trans (bel.mono B5.out.size))
        clear bel
        rcases hr with ⟨u, h1, h2, rfl⟩ | ⟨h1, rfl⟩
        · exact absurd ⟨u, h1, h2⟩ H1.out
        · clear h1
          go_wp2_with fail
          refine (s_MetresText _ _).mono ?_
          rintro e w7 ⟨rfl, bel⟩
          have B7 := Lib.hid (B6.out.trans (bel.mono B6.out.size))
          clear bel
          go_wp2_with fail
          go_ret
          exact ⟨rfl, B7.out⟩
end Go.Proofs.YtkkhmlnneijmgaaDoor
