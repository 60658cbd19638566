/- The walk of the exact law on texts of lengths. -/
import Derived.Test.YtkkhmlnneijmgaaDoorRead
namespace Go.Proofs.YtkkhmlnneijmgaaDoor
open Go.RowKit
set_option maxHeartbeats 2000000
set_option linter.unusedVariables false
set_option linter.unusedSimpArgs false
theorem walk_FnExactMetresText (a0 : Int) (w0 : (Lit.int .i64 a0).wf = true) (w : World) (ht : Tab w) :
    Calls Tryd.prog 4 #[.int .i64 a0] w fun e w' => e = .returned (.bool true) ∧ Below w.heap.size w w' := by
  have HT := Lib.hid ht
  clear ht
  go_enter Tryd.func4, Tryd.ntmps4
  go_wp2_with fail
  refine (s_MetresText _ _).mono ?_
  rintro e w1 ⟨rfl, hb1⟩
  have B1 := Lib.hid hb1; have T1 := Lib.hid (HT.out.later hb1)
  clear hb1
  go_wp2_with fail
  refine (i_MetresText _ _ T1.out).mono ?_
  rintro e w2 ⟨rfl, hb2⟩
  have B2 := Lib.hid (B1.out.trans (hb2.mono B1.out.size))
  clear hb2
  go_wp2_with fail
  go_ret
  exact ⟨rfl, B2.out⟩
/-- a string that came in, as the shell of a proof says it -/
theorem isM_one {l : List UInt8} {u v : Int} (hu : isVB u = true) (hv : isVB v = true) (h1 : mText u = l) (h2 : mText v = l) : u = v := by
  have a := (undot_parse u hu).1
  have b := (undot_parse v hv).1
  rw [h1] at a
  rw [h2, a] at b
  cases b
  rfl
theorem walk_FnExactReadMetres (a0 : ByteArray) (h0 : a0.size ≤ maxLen) (w : World) (ht : Tab w ∧ Errs w) :
    Calls Tryd.prog 5 #[.string a0] w fun e w' => e = .returned (.bool true) ∧ Below w.heap.size w w' := by
  have HT := Lib.hid ht.1
  have HE := Lib.hid ht.2
  unfold maxLen at h0
  clear ht
  by_cases hbig : 1048576 < a0.size
  · go_enter Tryd.func5, Tryd.ntmps5
    go_wp2_with fail
    go_ret
    exact ⟨rfl, Below.refl _ _⟩
  · have hs : a0.size ≤ 1048576 := by omega
    go_enter Tryd.func5, Tryd.ntmps5
    go_wp2_with fail
    refine (s_ReadMetres _ _ hs).mono ?_
    rintro e w1 ⟨hb1, hr1⟩
    have B1 := Lib.hid hb1; have T1 := Lib.hid (HT.out.later hb1); have E1 := Lib.hid (HE.out.later hb1)
    clear hb1
    rcases hr1 with ⟨v, hv, hm, rfl⟩ | ⟨hn, rfl⟩
    · have HV := Lib.hid hv; have HM := Lib.hid hm
      clear hv hm
      go_wp2_with fail
      refine (i_ReadMetres _ _ hs T1.out E1.out).mono ?_
      rintro e w2 ⟨hb2, hr2⟩
      have B2 := Lib.hid (B1.out.trans (hb2.mono B1.out.size))
      clear hb2
      rcases hr2 with ⟨u, hu, hm2, rfl⟩ | ⟨hn, rfl⟩
      · obtain rfl : u = v := isM_one hu HV.out hm2 HM.out
        clear hu hm2
        go_wp2_with fail
        go_ret
        exact ⟨rfl, B2.out⟩
      · exact absurd ⟨v, HV.out, HM.out⟩ hn
    · have HN := Lib.hid hn
      clear hn
      go_wp2_with fail
      refine (i_ReadMetres _ _ hs T1.out E1.out).mono ?_
      rintro e w2 ⟨hb2, hr2⟩
      have B2 := Lib.hid (B1.out.trans (hb2.mono B1.out.size))
      clear hb2
      rcases hr2 with ⟨u, hu, hm2, rfl⟩ | ⟨hn, rfl⟩
      · exact absurd ⟨u, hu, hm2⟩ HN.out
      · clear hn
        go_wp2_with fail
        go_ret
        exact ⟨rfl, B2.out⟩
end Go.Proofs.YtkkhmlnneijmgaaDoor
