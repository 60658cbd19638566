/- The walk of the exact law on ReadTokens. -/
import Derived.Test.YtpeebgkgccacbaaDoorTkR
import Derived.Test.YtpeebgkgccacbaaDoorTkD
import Derived.Test.YtpeebgkgccacbaaDoorTkF
namespace Go.Proofs.YtpeebgkgccacbaaDoor
open Go.RowKit Go.Shelf
set_option maxHeartbeats 4000000
set_option maxRecDepth 100000
set_option linter.unusedVariables false
set_option linter.unusedSimpArgs false
theorem rtL_len (l : List UInt8) : (rtL l).length ≤ 800 := by
  unfold rtL
  split
  · rename_i h
    unfold rtE at h
    split at h
    · cases h
    · split at h
      · cases h
      · split at h
        · cases h
        · unfold tkI; rw [List.length_map]; omega
  · simp
theorem walk_FnExactReadTokens (s : ByteArray) (hml : s.size ≤ maxLen) (w : World) (hx : Wst w ∧ MaxL w) :
    Calls Tryd.prog 5 #[.string s] w fun e w' => e = .returned (.bool true) ∧ Below w.heap.size w w' := by
  have HW := Lib.hid hx.1
  clear hx hml
  by_cases hs : 1048576 < s.size
  · have e1 : decide ((1048576 : Int) < s.size) = true := by simp; omega
    go_enter Tryd.func5, Tryd.ntmps5
    go_wp2_with fail
    go_ret
    exact ⟨rfl, by first | exact Later.refl _ | exact (Later.refl _).drew⟩
  · have hs2 : s.size ≤ 1048576 := by omega
    have e1 : decide ((1048576 : Int) < s.size) = false := by simp; omega
    clear hs
    have SF := Lib.hid (s_ReadTokens s)
    have IF := Lib.hid (i_ReadTokens s)
    have hL8 := rtL_len s.data.toList
    unfold TkRt at SF IF
    obtain ⟨L, hL⟩ : ∃ x, x = rtL s.data.toList := ⟨_, rfl⟩
    obtain ⟨y, hy⟩ : ∃ x, x = rtE s.data.toList := ⟨_, rfl⟩
    rw [← hL] at hL8
    rw [← hL, ← hy] at SF IF
    clear hL hy
    obtain ⟨n, hn⟩ : ∃ n, n = L.length := ⟨_, rfl⟩
    have HN := Lib.hid hn
    have hn8 : n ≤ 800 := by omega
    clear hn hL8
    go_enter Tryd.func5, Tryd.ntmps5
    go_wp2_with fail
    refine (SF.out _ hs2).mono ?_
    rintro e w1 ⟨v0, rfl, o0, hb⟩
    have B1 := Lib.hid hb
    obtain ⟨a0, cap0, rfl, _, t0, l0, _, _⟩ := o0.tks
    have T0 := Lib.hid t0
    have L0 : Hid (∀ x, a0 = some x → x.block < w1.heap.size) := Lib.hid (fun x h => (l0 x h).2)
    clear hb o0 t0 l0
    rw [← HN.out] at T0 ⊢
    go_wp2_with fail
    refine (IF.out _ hs2 (HW.out.later B1.out)).mono ?_
    rintro e w2 ⟨v1, rfl, o1, hb⟩
    have B2 := Lib.hid (Later.trans B1.out hb)
    have P2 := Lib.hid hb
    have O1 := Lib.hid o1
    obtain ⟨a1, cap1, rfl, _, t1, l1, _, _⟩ := o1.tks
    have T1 := Lib.hid t1
    rw [← HN.out] at O1 T1 ⊢
    clear hb o1 t1
    go_wp2_with fail
    refine (l_eqTokenS_same _ _ n cap1 n cap0 L _ T1.out (T0.out.later P2.out)).mono ?_
    rintro e w3 ⟨rfl, hb⟩
    have P3 := Lib.hid (Later.trans P2.out hb)
    have B3 := Lib.hid (Later.trans B2.out hb)
    have O3 := Lib.hid (O1.out.later hb)
    clear hb
    go_wp2_with fail
    refine (l_markTokenS _ _ _ L _ O3.out (by rw [← HN.out]; omega)).mono ?_
    rintro e w4 ⟨rfl, ho, hg⟩
    rw [← HN.out] at ho ⊢
    have O4 := Lib.hid ho
    have B4 : Hid (Later w w4) := Lib.hid (Below.grown B3.out hg (by have := B3.out.size; omega) (fun j hj => by have h1 := (O3.out.lt j hj).1; have h2 := B1.out.size; omega))
    have T4 : Hid (Tks w4 a0 n L) := Lib.hid ((T0.out.later P3.out).kept hg (fun x h e => by
      have h1 := (O3.out.lt x.block e).1
      have h2 := L0.out x h
      omega))
    clear ho hg
    go_wp2_with fail
    refine (l_heldTokenS _ _ _ L n _ HN.out O4.out (by omega)).mono ?_
    rintro e w5 ⟨rfl, hb⟩
    have B5 := Lib.hid (Later.trans B4.out hb)
    have O5 := Lib.hid (O4.out.later hb)
    have T5 := Lib.hid (T4.out.later hb)
    clear hb
    go_wp2_with fail
    refine (IF.out _ hs2 (HW.out.later B5.out)).mono ?_
    rintro e w6 ⟨v2, rfl, o2, hb⟩
    have B6 := Lib.hid (Later.trans B5.out hb)
    have O6 := Lib.hid (O5.out.later hb)
    have T6 := Lib.hid (T5.out.later hb)
    obtain ⟨a2, cap2, rfl, _, t2, l2, _, _⟩ := o2.tks
    have T2 := Lib.hid t2
    rw [← HN.out] at T2 ⊢
    clear hb o2 t2
    go_wp2_with fail
    refine (l_eqTokenS_same _ _ n cap2 n cap0 L _ T2.out T6.out).mono ?_
    rintro e w7 ⟨rfl, hb⟩
    have B7 := Lib.hid (Later.trans B6.out hb)
    have O7 := Lib.hid (O6.out.later hb)
    clear hb
    go_wp2_with fail
    refine (l_heldTokenS _ _ _ L n _ HN.out O7.out (by omega)).mono ?_
    rintro e w8 ⟨rfl, hb⟩
    have B8 := Lib.hid (Later.trans B7.out hb)
    clear hb
    go_wp2_with fail
    go_ret
    exact ⟨rfl, B8.out⟩
end Go.Proofs.YtpeebgkgccacbaaDoor
