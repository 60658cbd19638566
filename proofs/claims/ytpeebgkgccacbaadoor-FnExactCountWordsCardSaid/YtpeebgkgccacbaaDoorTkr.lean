/- The walks of the exact laws on IsToken, StandardText and CountWords. -/
import Derived.Test.YtpeebgkgccacbaaDoorTkq
import Derived.Test.YtpeebgkgccacbaaDoorTkX
namespace Go.Proofs.YtpeebgkgccacbaaDoor
open Go.RowKit Go.Shelf
set_option maxHeartbeats 4000000
set_option maxRecDepth 100000
set_option linter.unusedVariables false
set_option linter.unusedSimpArgs false
theorem walk_FnExactIsToken (k : Int) (t : List UInt8) (w : World) (hk : InR k) (ht : t.length ≤ maxLen) (hx : Wst w ∧ MaxL w) :
    Calls Tryd.prog 7 #[.agg #[.int .i64 k, .string (tx t)]] w fun e w' => e = .returned (.bool true) ∧ Below w.heap.size w w' := by
  have HW := Lib.hid hx.1
  have HK := Lib.hid hk
  clear hx hk
  have SZ := Lib.hid (fun W => l_szToken k t 1048576 W (Nat.le_refl _) ht)
  have TT := Lib.hid (fun W => l_toToken k t W)
  by_cases hl : t.length ≤ 1048576
  · rw [if_pos hl] at SZ
    have IT := Lib.hid (fun W hW => i_IsToken k t W hl HK.out hW)
    have ST := Lib.hid (fun W => s_IsToken k t W hl HK.out)
    obtain ⟨z, hz⟩ : ∃ z, z = tokB k t := ⟨_, rfl⟩
    obtain ⟨s, hs⟩ : ∃ s, s = tx t := ⟨_, rfl⟩
    obtain ⟨r, hr⟩ : ∃ r, r = 1048576 - t.length := ⟨_, rfl⟩
    rw [← hz] at IT ST
    rw [← hr] at SZ
    rw [← hs] at IT ST SZ TT ⊢
    have hr2 : r ≤ 1048576 := by omega
    clear hz hs hr hl ht
    have c0 : (w.alloc (.cells #[.int .i64 k, .string s] 44)).cell? ⟨w.heap.size, 0, none⟩ = some (.int .i64 k) := by rw [cell_of_row _ _ 0 _ _ (0, 0) (heap_alloc_new w _)]; rfl
    have c1 : (w.alloc (.cells #[.int .i64 k, .string s] 44)).cell? ⟨w.heap.size, 1, none⟩ = some (.string s) := by rw [cell_of_row _ _ 1 _ _ (0, 0) (heap_alloc_new w _)]; rfl
    have hW0 : w.heap.size < (w.alloc (.cells #[.int .i64 k, .string s] 44)).heap.size := by rw [World.size_alloc]; exact Nat.lt_succ_self _
    have C0 : Hid (∀ W', Later (w.alloc (.cells #[.int .i64 k, .string s] 44)) W' → W'.cell? ⟨w.heap.size, 0, none⟩ = some (.int .i64 k) ∧ W'.cell? ⟨w.heap.size, 1, none⟩ = some (.string s)) := Lib.hid (fun W' q => ⟨by rw [q.cell (p := ⟨w.heap.size, 0, none⟩) hW0]; exact c0, by rw [q.cell (p := ⟨w.heap.size, 1, none⟩) hW0]; exact c1⟩)
    have A0 : Hid (Later w (w.alloc (.cells #[.int .i64 k, .string s] 44))) := Lib.hid ((Later.refl _).alloc _)
    clear hW0
    go_enter Tryd.func7, Tryd.ntmps7
    go_wp2_with fail
    generalize w.alloc (.cells #[.int .i64 k, .string s] 44) = W0 at C0 A0 c0 c1 ⊢
    refine (SZ.out _).mono ?_
    rintro e w1 ⟨rfl, hb⟩
    have B1 := Lib.hid (show Later W0 w1 from hb)
    obtain ⟨d0, d1⟩ := C0.out _ hb
    clear hb c0 c1
    go_wp2_with fail
    refine (TT.out _).mono ?_
    rintro e w2 ⟨rfl, hb⟩
    have B2 := Lib.hid (Later.trans B1.out hb)
    clear hb d0 d1
    go_wp2_with fail
    refine (ST.out _).mono ?_
    rintro e w3 ⟨rfl, hb⟩
    have B3 := Lib.hid (Later.trans B2.out hb)
    obtain ⟨d0, d1⟩ := C0.out _ B3.out
    clear hb
    go_wp2_with fail
    refine (TT.out _).mono ?_
    rintro e w4 ⟨rfl, hb⟩
    have B4 := Lib.hid (Later.trans B3.out hb)
    clear hb d0 d1
    go_wp2_with fail
    refine (IT.out _ (HW.out.later (Later.trans A0.out B4.out))).mono ?_
    rintro e w5 ⟨rfl, hb⟩
    have B5 := Lib.hid (Later.trans B4.out hb)
    clear hb
    go_wp2_with fail
    go_ret
    exact ⟨rfl, Later.trans A0.out B5.out⟩
  · rw [if_neg hl] at SZ
    obtain ⟨s, hs⟩ : ∃ s, s = tx t := ⟨_, rfl⟩
    rw [← hs] at SZ TT ⊢
    clear hs hl ht
    go_enter Tryd.func7, Tryd.ntmps7
    go_wp2_with (go_at_call 35; refine (SZ.out _).mono ?_; rintro e w1 ⟨rfl, hb⟩; have H1 := Lib.hid hb; clear hb)
    go_ret
    exact ⟨rfl, (show Later w _ from (by repeat (first | (with_reducible exact Later.refl _) | (with_reducible exact Hid.out (by assumption)) | (with_reducible refine Later.alloc ?_ _) | (with_reducible refine Later.setCell ?_ (by simp; omega) _) | (with_reducible refine Later.setCell ?_ (by simp) _) | (with_reducible refine Later.drewN ?_ _) | (with_reducible refine Later.drew ?_) | (with_reducible refine Later.trans ?_ (Hid.out (by assumption))))))⟩
theorem walk_FnExactStandardText (A : Option Addr) (n cap : Nat) (L : List Tkn) (w : World) (hc : n ≤ cap) (hs : Tko w A n L) (hx : Wst w ∧ MaxL w) :
    Calls Tryd.prog 8 #[.slice A n cap] w fun e w' => e = .returned (.bool true) ∧ Below w.heap.size w w' := by
  have HW := Lib.hid hx.1
  have SZ := Lib.hid (l_szTokenS A n cap L w hs)
  have HS := Lib.hid hs
  clear hx hs
  go_enter Tryd.func8, Tryd.ntmps8
  go_wp2_with fail
  refine SZ.out.mono ?_
  rintro e w1 ⟨rfl | ⟨r, rfl, hr, hn, hsh⟩, hb⟩
  · have B1 := Lib.hid hb
    clear hb
    go_wp2_with fail
    go_ret
    exact ⟨rfl, B1.out⟩
  · have B1 := Lib.hid (show Later w w1 from hb)
    have T1 := Lib.hid ((HS.out.later hb).tks hsh)
    have TS := Lib.hid (fun W h => l_toTokenS A n cap L W h hn)
    obtain ⟨P, hP⟩ : ∃ x, x = tx (stV L) := ⟨_, rfl⟩
    obtain ⟨E, hE⟩ : ∃ x, x = lsE L := ⟨_, rfl⟩
    have SS : Hid (∀ g W, Tks W (some ⟨g, 0, none⟩) n L → Calls Tryd.prog 14 #[.slice (some ⟨g, 0, none⟩) n n] W fun e w' => e = .returned (.tuple #[.string P, .int .i64 E]) ∧ Later W w') := Lib.hid (fun g W h => by rw [hP, hE]; exact s_StandardText _ n n L W h)
    have IS : Hid (∀ g W, Tks W (some ⟨g, 0, none⟩) n L → Wst W → Calls Tryd.prog 13 #[.slice (some ⟨g, 0, none⟩) n n] W fun e w' => e = .returned (.tuple #[.string P, .int .i64 E]) ∧ Later W w') := Lib.hid (fun g W h hW => by rw [hP, hE]; exact i_StandardText _ n n L W h hW)
    clear hb hsh hP hE SZ HS
    go_wp2_with fail
    refine (TS.out _ T1.out).mono ?_
    rintro e w2 ⟨g2, rfl, _, _, t2, hb⟩
    have B2 := Lib.hid (Later.trans B1.out hb)
    have T2 := Lib.hid (T1.out.later hb)
    have U2 := Lib.hid t2
    clear hb t2
    go_wp2_with fail
    refine (SS.out g2 _ U2.out).mono ?_
    rintro e w3 ⟨rfl, hb⟩
    have B3 := Lib.hid (Later.trans B2.out hb)
    have T3 := Lib.hid (T2.out.later hb)
    clear hb T1 T2 U2
    go_wp2_with fail
    refine (TS.out _ T3.out).mono ?_
    rintro e w4 ⟨g4, rfl, _, _, t4, hb⟩
    have B4 := Lib.hid (Later.trans B3.out hb)
    have T4 := Lib.hid (T3.out.later hb)
    have U4 := Lib.hid t4
    clear hb t4 T3
    go_wp2_with fail
    refine (IS.out g4 _ U4.out (HW.out.later B4.out)).mono ?_
    rintro e w5 ⟨rfl, hb⟩
    have B5 := Lib.hid (Later.trans B4.out hb)
    have T5 := Lib.hid (T4.out.later hb)
    have U5 := Lib.hid (U4.out.later hb)
    clear hb T4 U4
    go_wp2_with fail
    refine (TS.out _ T5.out).mono ?_
    rintro e w6 ⟨g6, rfl, _, _, t6, hb⟩
    have B6 := Lib.hid (Later.trans B5.out hb)
    have U6 := Lib.hid (U5.out.later hb)
    have V6 := Lib.hid t6
    clear hb t6 T5 U5
    go_wp2_with fail
    refine (l_eqTokenS_same _ _ n n n n L _ U6.out V6.out).mono ?_
    rintro e w7 ⟨rfl, hb⟩
    have B7 := Lib.hid (Later.trans B6.out hb)
    clear hb
    go_wp2_with fail
    go_ret
    exact ⟨rfl, B7.out⟩
theorem walk_FnExactCountWords (A : Option Addr) (n cap : Nat) (L : List Tkn) (u : List UInt8) (w : World) (hc : n ≤ cap) (hs : Tko w A n L) (hu : u.length ≤ maxLen) (hx : Wst w ∧ MaxL w) :
    Calls Tryd.prog 9 #[.slice A n cap, .string (tx u)] w fun e w' => e = .returned (.bool true) ∧ Below w.heap.size w w' := by
  have HW := Lib.hid hx.1
  have SZ := Lib.hid (l_szTokenS A n cap L w hs)
  have HS := Lib.hid hs
  have huz : (tx u).size = u.length := rfl
  obtain ⟨su, hsu⟩ : ∃ s, s = tx u := ⟨_, rfl⟩
  have HSU := Lib.hid hsu
  rw [← hsu] at huz ⊢
  clear hx hs hsu
  by_cases h20 : 1048576 < su.size
  · have e1 : decide ((1048576 : Int) < su.size) = true := by simp; omega
    go_enter Tryd.func9, Tryd.ntmps9
    go_wp2_with fail
    go_ret
    exact ⟨rfl, by first | exact Later.refl _ | exact (Later.refl _).drew⟩
  · have hu2 : su.size ≤ 1048576 := by omega
    have hu3 : u.length ≤ 1048576 := by omega
    have e1 : decide ((1048576 : Int) < su.size) = false := by simp; omega
    clear h20 huz hu
    go_enter Tryd.func9, Tryd.ntmps9
    go_wp2_with fail
    refine SZ.out.mono ?_
    rintro e w1 ⟨rfl | ⟨r, rfl, hr, hn, hsh⟩, hb⟩
    · have B1 := Lib.hid hb
      clear hb
      go_wp2_with fail
      go_ret
      exact ⟨rfl, B1.out⟩
    · have B1 := Lib.hid (show Later w w1 from hb)
      have T1 := Lib.hid ((HS.out.later hb).tks hsh)
      have TS := Lib.hid (fun W h => l_toTokenS A n cap L W h hn)
      obtain ⟨V, hV⟩ : ∃ x, x = cwV L u := ⟨_, rfl⟩
      obtain ⟨E, hE⟩ : ∃ x, x = cwE L u := ⟨_, rfl⟩
      have SS : Hid (∀ g W, Tks W (some ⟨g, 0, none⟩) n L → Calls Tryd.prog 17 #[.slice (some ⟨g, 0, none⟩) n n, .string su] W fun e w' => e = .returned (.tuple #[.int .i64 V, .int .i64 E]) ∧ Later W w') := Lib.hid (fun g W h => by rw [hV, hE, HSU.out]; exact s_CountWords _ n n L u W h hu3)
      have IS : Hid (∀ g W, Tks W (some ⟨g, 0, none⟩) n L → Wst W → Calls Tryd.prog 16 #[.slice (some ⟨g, 0, none⟩) n n, .string su] W fun e w' => e = .returned (.tuple #[.int .i64 V, .int .i64 E]) ∧ Later W w') := Lib.hid (fun g W h hW => by rw [hV, hE, HSU.out]; exact i_CountWords _ n n L u W h hu3 hW)
      clear hb hsh hV hE SZ HS
      go_wp2_with fail
      refine (TS.out _ T1.out).mono ?_
      rintro e w2 ⟨g2, rfl, _, _, t2, hb⟩
      have B2 := Lib.hid (Later.trans B1.out hb)
      have T2 := Lib.hid (T1.out.later hb)
      have U2 := Lib.hid t2
      clear hb t2
      go_wp2_with fail
      refine (SS.out g2 _ U2.out).mono ?_
      rintro e w3 ⟨rfl, hb⟩
      have B3 := Lib.hid (Later.trans B2.out hb)
      have T3 := Lib.hid (T2.out.later hb)
      clear hb T1 T2 U2
      go_wp2_with fail
      refine (TS.out _ T3.out).mono ?_
      rintro e w4 ⟨g4, rfl, _, _, t4, hb⟩
      have B4 := Lib.hid (Later.trans B3.out hb)
      have T4 := Lib.hid (T3.out.later hb)
      have U4 := Lib.hid t4
      clear hb t4 T3
      go_wp2_with fail
      refine (IS.out g4 _ U4.out (HW.out.later B4.out)).mono ?_
      rintro e w5 ⟨rfl, hb⟩
      have B5 := Lib.hid (Later.trans B4.out hb)
      have T5 := Lib.hid (T4.out.later hb)
      have U5 := Lib.hid (U4.out.later hb)
      clear hb T4 U4
      go_wp2_with fail
      refine (TS.out _ T5.out).mono ?_
      rintro e w6 ⟨g6, rfl, _, _, t6, hb⟩
      have B6 := Lib.hid (Later.trans B5.out hb)
      have U6 := Lib.hid (U5.out.later hb)
      have V6 := Lib.hid t6
      clear hb t6 T5 U5
      go_wp2_with fail
      refine (l_eqTokenS_same _ _ n n n n L _ U6.out V6.out).mono ?_
      rintro e w7 ⟨rfl, hb⟩
      have B7 := Lib.hid (Later.trans B6.out hb)
      clear hb
      go_wp2_with fail
      go_ret
      exact ⟨rfl, B7.out⟩
end Go.Proofs.YtpeebgkgccacbaaDoor
