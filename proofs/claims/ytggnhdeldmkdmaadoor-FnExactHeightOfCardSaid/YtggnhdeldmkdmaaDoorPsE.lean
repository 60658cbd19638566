/- The walks of the exact laws on ArgumentsOf, IsExpression and HeightOf. -/
import Derived.Test.YtggnhdeldmkdmaaDoorPsq
import Derived.Test.YtggnhdeldmkdmaaDoorPsH
import Derived.Test.YtggnhdeldmkdmaaDoorPsT
namespace Go.Proofs.YtggnhdeldmkdmaaDoor
open Go.RowKit Go.Shelf
set_option maxHeartbeats 4000000
set_option maxRecDepth 100000
set_option linter.unusedVariables false
set_option linter.unusedSimpArgs false
theorem walk_FnExactArgumentsOf (k : Int) (w : World) (hk : (Lit.int .i64 k).wf = true) (hx : Ops w) :
    Calls Tryd.prog 5 #[.int .i64 k] w fun e w' => e = .returned (.bool true) ∧ Below w.heap.size w w' := by
  have hr := bounds_i64 hk
  have SS := Lib.hid (fun W => s_ArgumentsOf k W hr)
  have IS := Lib.hid (fun W hW => i_ArgumentsOf k W hW)
  have HO := Lib.hid hx
  clear hx hk hr
  obtain ⟨v, hv⟩ : ∃ v, v = (if kndB k = true then (tkK k : Int) else 0) := ⟨_, rfl⟩
  obtain ⟨c, hc⟩ : ∃ c : Int, c = (if kndB k = true then 0 else 2) := ⟨_, rfl⟩
  rw [← hv, ← hc] at SS IS
  clear hv hc
  go_enter Tryd.func5, Tryd.ntmps5
  go_wp2_with (first | (go_at_call 17; refine (SS.out _).mono ?_; rintro e w1 ⟨rfl, hb⟩; have H1 := Lib.hid hb; clear hb) | (go_at_call 18; refine (IS.out _ (HO.out.later H1.out)).mono ?_; rintro e w2 ⟨rfl, hb⟩; have H2 := Lib.hid (Later.trans H1.out hb); clear hb))
  go_ret
  exact ⟨rfl, H2.out⟩
theorem walk_FnExactIsExpression (A : Option Addr) (n cap : Nat) (L : List Trm) (w : World) (hc : n ≤ cap) (hs : Tro w A n L) (hx : Ops w) :
    Calls Tryd.prog 4 #[.slice A n cap] w fun e w' => e = .returned (.bool true) ∧ Below w.heap.size w w' := by
  have HW := Lib.hid hx
  have SZ := Lib.hid (l_szTermS A n cap L 1048576 w (Nat.le_refl _) hs)
  have HS := Lib.hid hs
  clear hx hs
  go_enter Tryd.func4, Tryd.ntmps4
  go_wp2_with fail
  refine SZ.out.mono ?_
  rintro e w1 ⟨rfl | ⟨r, rfl, hr, hn, hsh⟩, hb⟩
  · have B1 := Lib.hid hb
    clear hb
    go_wp2_with fail
    go_ret
    exact ⟨rfl, B1.out⟩
  · have B1 := Lib.hid (show Later w w1 from hb)
    have T1 := Lib.hid ((HS.out.later hb).trs hsh)
    have TS := Lib.hid (fun W h => l_toTermS A n cap L W h hn)
    obtain ⟨V, hV⟩ : ∃ x, x = exB L := ⟨_, rfl⟩
    have SS : Hid (∀ g W, Trs W (some ⟨g, 0, none⟩) n L → Calls Tryd.prog 13 #[.slice (some ⟨g, 0, none⟩) n n] W fun e w' => e = .returned (.bool V) ∧ Later W w') := Lib.hid (fun g W h => by rw [hV]; exact s_IsExpression _ n n L W h (by omega))
    have IS : Hid (∀ g W, Trs W (some ⟨g, 0, none⟩) n L → Ops W → Calls Tryd.prog 15 #[.slice (some ⟨g, 0, none⟩) n n] W fun e w' => e = .returned (.bool V) ∧ Later W w') := Lib.hid (fun g W h hW => by rw [hV]; exact i_IsExpression _ n n L W h hW)
    clear hb hsh hV SZ HS
    go_wp2_with fail
    refine (TS.out _ T1.out).mono ?_
    rintro e w2 ⟨g2, rfl, _, _, t2, hb⟩
    have B2 := Lib.hid (Later.trans B1.out hb)
    have T2 := Lib.hid (T1.out.later hb)
    have U2 := Lib.hid t2
    clear hb t2
    go_wp2_with fail
    refine (SS.out g2 _ U2.out).mono ?_
    rintro e w3 ⟨rfl, hb⟩
    have B3 := Lib.hid (Later.trans B2.out hb)
    have T3 := Lib.hid (T2.out.later hb)
    clear hb T1 T2 U2
    go_wp2_with fail
    refine (TS.out _ T3.out).mono ?_
    rintro e w4 ⟨g4, rfl, _, _, t4, hb⟩
    have B4 := Lib.hid (Later.trans B3.out hb)
    have T4 := Lib.hid (T3.out.later hb)
    have U4 := Lib.hid t4
    clear hb t4 T3
    go_wp2_with fail
    refine (IS.out g4 _ U4.out (HW.out.later B4.out)).mono ?_
    rintro e w5 ⟨rfl, hb⟩
    have B5 := Lib.hid (Later.trans B4.out hb)
    have T5 := Lib.hid (T4.out.later hb)
    have U5 := Lib.hid (U4.out.later hb)
    clear hb T4 U4
    go_wp2_with fail
    refine (TS.out _ T5.out).mono ?_
    rintro e w6 ⟨g6, rfl, _, _, t6, hb⟩
    have B6 := Lib.hid (Later.trans B5.out hb)
    have U6 := Lib.hid (U5.out.later hb)
    have V6 := Lib.hid t6
    clear hb t6 T5 U5
    go_wp2_with fail
    refine (l_eqTermS_same _ _ n n n n L _ U6.out V6.out).mono ?_
    rintro e w7 ⟨rfl, hb⟩
    have B7 := Lib.hid (Later.trans B6.out hb)
    clear hb
    go_wp2_with fail
    go_ret
    exact ⟨rfl, B7.out⟩
theorem walk_FnExactHeightOf (A : Option Addr) (n cap : Nat) (L : List Trm) (w : World) (hc : n ≤ cap) (hs : Tro w A n L) (hx : Ops w) :
    Calls Tryd.prog 6 #[.slice A n cap] w fun e w' => e = .returned (.bool true) ∧ Below w.heap.size w w' := by
  have HW := Lib.hid hx
  have SZ := Lib.hid (l_szTermS A n cap L 1048576 w (Nat.le_refl _) hs)
  have HS := Lib.hid hs
  clear hx hs
  go_enter Tryd.func6, Tryd.ntmps6
  go_wp2_with fail
  refine SZ.out.mono ?_
  rintro e w1 ⟨rfl | ⟨r, rfl, hr, hn, hsh⟩, hb⟩
  · have B1 := Lib.hid hb
    clear hb
    go_wp2_with fail
    go_ret
    exact ⟨rfl, B1.out⟩
  · have B1 := Lib.hid (show Later w w1 from hb)
    have T1 := Lib.hid ((HS.out.later hb).trs hsh)
    have TS := Lib.hid (fun W h => l_toTermS A n cap L W h hn)
    obtain ⟨V, hV⟩ : ∃ x : Int, x = (heV L : Nat) := ⟨_, rfl⟩
    obtain ⟨E, hE⟩ : ∃ x : Int, x = (heE L : Nat) := ⟨_, rfl⟩
    have SS : Hid (∀ g W, Trs W (some ⟨g, 0, none⟩) n L → Calls Tryd.prog 19 #[.slice (some ⟨g, 0, none⟩) n n] W fun e w' => e = .returned (.tuple #[.int .i64 V, .int .i64 E]) ∧ Later W w') := Lib.hid (fun g W h => by rw [hV, hE]; exact s_HeightOf _ n n L W h (by omega))
    have IS : Hid (∀ g W, Trs W (some ⟨g, 0, none⟩) n L → Ops W → Calls Tryd.prog 20 #[.slice (some ⟨g, 0, none⟩) n n] W fun e w' => e = .returned (.tuple #[.int .i64 V, .int .i64 E]) ∧ Later W w') := Lib.hid (fun g W h hW => by rw [hV, hE]; exact i_HeightOf _ n n L W h hW)
    clear hb hsh hV hE SZ HS
    go_wp2_with fail
    refine (TS.out _ T1.out).mono ?_
    rintro e w2 ⟨g2, rfl, _, _, t2, hb⟩
    have B2 := Lib.hid (Later.trans B1.out hb)
    have T2 := Lib.hid (T1.out.later hb)
    have U2 := Lib.hid t2
    clear hb t2
    go_wp2_with fail
    refine (SS.out g2 _ U2.out).mono ?_
    rintro e w3 ⟨rfl, hb⟩
    have B3 := Lib.hid (Later.trans B2.out hb)
    have T3 := Lib.hid (T2.out.later hb)
    clear hb T1 T2 U2
    go_wp2_with fail
    refine (TS.out _ T3.out).mono ?_
    rintro e w4 ⟨g4, rfl, _, _, t4, hb⟩
    have B4 := Lib.hid (Later.trans B3.out hb)
    have T4 := Lib.hid (T3.out.later hb)
    have U4 := Lib.hid t4
    clear hb t4 T3
    go_wp2_with fail
    refine (IS.out g4 _ U4.out (HW.out.later B4.out)).mono ?_
    rintro e w5 ⟨rfl, hb⟩
    have B5 := Lib.hid (Later.trans B4.out hb)
    have T5 := Lib.hid (T4.out.later hb)
    have U5 := Lib.hid (U4.out.later hb)
    clear hb T4 U4
    go_wp2_with fail
    refine (TS.out _ T5.out).mono ?_
    rintro e w6 ⟨g6, rfl, _, _, t6, hb⟩
    have B6 := Lib.hid (Later.trans B5.out hb)
    have U6 := Lib.hid (U5.out.later hb)
    have V6 := Lib.hid t6
    clear hb t6 T5 U5
    go_wp2_with fail
    refine (l_eqTermS_same _ _ n n n n L _ U6.out V6.out).mono ?_
    rintro e w7 ⟨rfl, hb⟩
    have B7 := Lib.hid (Later.trans B6.out hb)
    clear hb
    go_wp2_with fail
    go_ret
    exact ⟨rfl, B7.out⟩
end Go.Proofs.YtggnhdeldmkdmaaDoor
