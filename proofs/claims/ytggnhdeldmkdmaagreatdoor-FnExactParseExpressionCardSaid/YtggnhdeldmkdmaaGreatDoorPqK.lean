/- The parser's recursion, of the model: factors. -/
import Derived.Test.YtggnhdeldmkdmaaGreatDoorPqJ
namespace Go.Proofs.YtggnhdeldmkdmaaGreatDoor
open Go.RowKit Go.Shelf
set_option maxHeartbeats 4000000
set_option maxRecDepth 100000
set_option linter.unusedVariables false
set_option linter.unusedSimpArgs false
variable {N : Nat}
theorem s_Factor_bad (g : Nat) (T : TT) (w : World) (h : SSt N w g T true) : Calls Tryz.prog 140 #[.pointer (some ⟨g, 0, none⟩)] w fun e w' => e = .returned (.slice none 0 0) ∧ w = w' := by
  obtain ⟨c2, f2⟩ := h.flag
  clear h
  go_enter Tryz.func140, Tryz.ntmps140
  go_wp2_with fail
  all_goals
    go_ret
    exact ⟨rfl, rfl⟩
theorem s_And_bad (g : Nat) (T : TT) (w : World) (h : SSt N w g T true) : Calls Tryz.prog 114 #[.pointer (some ⟨g, 0, none⟩)] w fun e w' => e = .returned (.slice none 0 0) ∧ w = w' := by
  have C := Lib.hid (s_Factor_bad g T w h)
  obtain ⟨c2, f2⟩ := h.flag
  clear h
  go_enter Tryz.func114, Tryz.ntmps114
  go_wp2_with fail
  refine C.out.mono ?_
  rintro e w1 ⟨rfl, rfl⟩
  go_wp2_with fail
  go_loopw [3] (fun u wr => u = .slice none 0 0 ∧ wr = w) (fun _ _ => 0)
  case atStart => exact ⟨rfl, rfl⟩
  case round =>
    obtain ⟨rfl, rfl⟩ := hrel
    go_wp2_with fail
    go_ret
    exact ⟨rfl, rfl⟩
theorem s_Or_bad (g : Nat) (T : TT) (w : World) (h : SSt N w g T true) : Calls Tryz.prog 63 #[.pointer (some ⟨g, 0, none⟩)] w fun e w' => e = .returned (.slice none 0 0) ∧ w = w' := by
  have C := Lib.hid (s_And_bad g T w h)
  obtain ⟨c2, f2⟩ := h.flag
  clear h
  go_enter Tryz.func63, Tryz.ntmps63
  go_wp2_with fail
  refine C.out.mono ?_
  rintro e w1 ⟨rfl, rfl⟩
  go_wp2_with fail
  go_loopw [3] (fun u wr => u = .slice none 0 0 ∧ wr = w) (fun _ _ => 0)
  case atStart => exact ⟨rfl, rfl⟩
  case round =>
    obtain ⟨rfl, rfl⟩ := hrel
    go_wp2_with fail
    go_ret
    exact ⟨rfl, rfl⟩
theorem nd_head {s : List UInt8} {T : TT} (h : nd s T = .bad) (hs : s ≠ []) : T.headD [] ≠ s := by
  cases T with
  | nil => exact fun e => hs e.symm
  | cons x r =>
    intro e
    simp only [List.headD_cons] at e
    unfold nd at h
    simp [e] at h
theorem kwI_blk (x : List UInt8) (h : bkK x ≠ 0) : kwI x = (bkK x : Int) + 4 := by
  have hm : x ∈ bks := by
    unfold bkK at h
    split at h
    · rename_i h2; simpa using h2
    · exact absurd rfl h
  have : ∀ y ∈ bks, kwI y = (bkK y : Int) + 4 := by decide
  exact this x hm
theorem kwI_oth (x : List UInt8) (h : bkK x = 0) : -1 ≤ kwI x ∧ kwI x < 11 := by
  have h1 := kwI_11 x
  have hb : bkB12 x = false := by
    cases hb : bkB12 x with
    | false => rfl
    | true =>
      have : bks.contains x = true := hb
      unfold bkK at h
      rw [if_pos this] at h
      omega
  rw [hb] at h1
  have h2 : kwI x < 11 := by simpa using h1
  refine ⟨?_, h2⟩
  unfold kwI
  split <;> omega
def BlkS (N : Nat) (f k : Nat) : Prop := ∀ (T : TT) (w : World) (g : Nat), SSt N w g T false → T.length ≤ 100000 → prs f (.block k) T ≠ .out → Calls Tryz.prog 157 #[.pointer (some ⟨g, 0, none⟩), .int .i64 k] w (RetS N w g T (prs f (.block k) T))
theorem eq_lit (x k : List UInt8) : ((tx x).toList == k) = decide (x = k) := by
  rw [Lib.toList_data]
  show (x == k) = _
  by_cases h : x = k <;> simp [h]
theorem s_factor (f : Nat) (EX : OpS N 63 f (.chain true)) (FA : OpS N 140 f .factor) (BL : ∀ k, 7 ≤ k ∧ k ≤ 12 → BlkS N f k) : OpS N 140 (f + 1) .factor := by
  intro T w g hp hT hne
  obtain ⟨X, hXX⟩ : ∃ X, X = prs (f + 1) .factor T := ⟨_, rfl⟩
  rw [← hXX] at hne ⊢
  have hgl := hp.lt
  obtain ⟨c2, f2⟩ := hp.flag
  have PK := Lib.hid (s_peek g T false w hp)
  have HS := Lib.hid hp
  -- a wrong token, or none
  have other : Hid (∀ x, T.headD [] = x → X = .bad → x ≠ [40] → x ≠ kTrue → x ≠ kFalse → x ≠ kNot → bkK x = 0 → nmB x = false → Calls Tryz.prog 140 #[.pointer (some ⟨g, 0, none⟩)] w (RetS N w g T X)) := Lib.hid (by
    intro x hx hXb h1 h2 h3 h4 h5 h6
    have HX := Lib.hid hXb
    have e1 := eq_lit x kNot; have e2 := eq_lit x [40]; have e3 := eq_lit x kTrue; have e4 := eq_lit x kFalse
    rw [decide_eq_false h4] at e1; rw [decide_eq_false h1] at e2; rw [decide_eq_false h2] at e3; rw [decide_eq_false h3] at e4
    have KW := Lib.hid (fun W => s_Keyword (tx x) W)
    rw [tx_data] at KW
    obtain ⟨k0, k1⟩ := kwI_oth x h5
    have PK := PK
    rw [hx] at PK
    have WN := Lib.hid (fun W h => s_wantName_no (N := N) g T false W h (by rw [hx]; exact h6))
    obtain ⟨q, hq⟩ : ∃ q, q = kwI x := ⟨_, rfl⟩
    rw [← hq] at KW k0 k1
    obtain ⟨s, hs⟩ : ∃ s, s = tx x := ⟨_, rfl⟩
    rw [← hs] at PK KW e1 e2 e3 e4
    simp only [kNot, kTrue, kFalse] at e1 e3 e4
    clear hXX hne EX FA BL hx hXb h1 h2 h3 h4 h5 h6 hq hs hp
    go_enter Tryz.func140, Tryz.ntmps140
    go_wp2_with fail
    refine PK.out.mono ?_
    rintro e w1 ⟨rfl, hb1⟩
    have H1 := Lib.hid hb1
    clear hb1
    go_wp2_with fail
    refine (KW.out _).mono ?_
    rintro e w2 ⟨rfl, hb2⟩
    have H2 := Lib.hid (Later.trans H1.out hb2)
    clear hb2
    go_wp2_with fail
    refine (WN.out _ (HS.out.later H2.out)).mono ?_
    rintro e w3 ⟨rfl, hp3, hg3⟩
    have HP3 := Lib.hid hp3
    have HG3 := Lib.hid (grP_trans (grP_later (grP_refl w (some g)) H2.out) hg3)
    have hsz3 : w.heap.size ≤ w3.heap.size := HG3.out.size
    clear hp3 hg3
    go_wp2_with fail
    go_ret
    exact retS_bad (grP_later HG3.out (by exact (Later.refl _).alloc _)) (ownR_one w3 w.heap.size hsz3 1 [] 0 ⟨⟨by show _ ≤ (1 : Int); omega, by show (1 : Int) ≤ _; omega⟩, by simp, ⟨by show _ ≤ (0 : Int); omega, by show (0 : Int) ≤ _; omega⟩⟩) (by simp) (by simp; omega) (HP3.out.later ((Later.refl _).alloc _)) HX.out)
  cases T with
  | nil => exact other.out [] rfl (by rw [hXX]; rfl) (by decide) (by decide) (by decide) (by decide) (by decide) (by decide)
  | cons x r =>
    simp only [prs] at hXX
    simp only [List.length_cons] at hT
    simp only [List.headD_cons] at PK other
    have hkd := hp.valid x (by simp)
    have hxl := (kd_len hkd).2
    have e1 := eq_lit x kNot; have e2 := eq_lit x [40]; have e3 := eq_lit x kTrue; have e4 := eq_lit x kFalse
    by_cases hb : x = [40]
    · subst hb
      rw [if_pos rfl] at hXX
      have hq : prs f (.chain true) r ≠ .out := by intro e; rw [e] at hXX; exact hne hXX
      have CE := Lib.hid (fun W h1 => EX r W g h1 (by omega) hq)
      obtain ⟨q, hqq⟩ : ∃ q, q = prs f (.chain true) r := ⟨_, rfl⟩
      have HQ := Lib.hid hqq
      rw [← hqq] at hXX hq CE
      have HX := Lib.hid hXX
      rw [decide_eq_false (by decide)] at e1
      rw [decide_eq_true rfl] at e2
      simp only [kNot] at e1
      clear hXX hne hp EX FA BL hqq hkd hxl other
      go_enter Tryz.func140, Tryz.ntmps140
      go_wp2_with fail
      refine PK.out.mono ?_
      rintro e w1 ⟨rfl, hb1⟩
      obtain ⟨p, off, n, cap, k9, c0', c1', c2', f1', f2', hkn, hn9, hpg, d1, hpl, hss⟩ := (HS.out.later hb1).cons
      have HG1 := Lib.hid (grP_set (j := 1) (grP_later (grP_refl w (some g)) hb1) (.int .i64 ((k9 : Int) + 1)))
      have HP1 := Lib.hid hss
      have hw1 : IntKind.i64.wrap ((k9 : Int) + 1) = (k9 : Int) + 1 := IntWalk.i64_in _ (by omega)
      have hsz1 : w.heap.size ≤ (w1.setCell ⟨g, 1, none⟩ (.int .i64 ((k9 : Int) + 1))).heap.size := HG1.out.size
      clear hb1 hss d1
      go_wp2_with fail
      refine (CE.out _ HP1.out).mono ?_
      rintro e w2 ⟨hg2, hr⟩
      have HG2 := Lib.hid (grP_trans HG1.out hg2)
      cases q with
      | out => exact absurd rfl hq
      | bad =>
        obtain ⟨v, L, T', rfl, ho, hL, hl, hp2⟩ := hr
        have HO2 := Lib.hid (ho.mono hsz1)
        have HL := Lib.hid hL
        have HX2 : Hid (X = .bad) := Lib.hid HX.out
        have WB := Lib.hid (s_want_bad g [41] T' w2 hp2 (by simp))
        clear hg2 ho hL hp2
        go_wp2_with fail
        refine WB.out.mono ?_
        rintro e w3 ⟨rfl, ⟨T3, hT3, hp3⟩, hg3⟩
        have HG3 := Lib.hid (grP_trans HG2.out hg3)
        have HO3 := Lib.hid (HO2.out.keptG hg3 hgl)
        have HP3 := Lib.hid hp3
        clear hg3 hp3
        go_wp2_with fail
        go_ret
        exact retS_bad HG3.out HO3.out HL.out (by simp only [List.length_cons]; omega) HP3.out HX2.out
      | ok a r1 =>
        obtain ⟨v, rfl, ho, hp2⟩ := hr
        obtain ⟨la, oa, _⟩ := prs_ok f (.chain true) r a r1 trivial HQ.out.symm
        simp only [accL] at la
        have HO2 := Lib.hid (ho.mono hsz1)
        have HP2 := Lib.hid hp2
        have NE := Lib.hid (one_ne oa)
        have HX2 : Hid (X = (nd [41] r1).bind fun _ r2 => .ok a r2) := Lib.hid HX.out
        clear hg2 ho hp2 HX oa
        cases hn : nd [41] r1 with
        | out => exact absurd hn (nd_in _ _)
        | bad =>
          have ND := Lib.hid (s_want_no g [41] r1 false _ HP2.out (nd_head hn (by simp)))
          have HX3 : Hid (X = .bad) := Lib.hid (by rw [HX2.out, hn]; rfl)
          clear hn
          go_wp2_with fail
          refine ND.out.mono ?_
          rintro e w3 ⟨rfl, hp3, hg3⟩
          have HG3 := Lib.hid (grP_trans HG2.out hg3)
          have HO3 := Lib.hid (HO2.out.keptG hg3 hgl)
          have HP3 := Lib.hid hp3
          clear hg3 hp3
          go_wp2_with fail
          go_ret
          exact retS_bad HG3.out HO3.out NE.out (by simp only [List.length_cons]; omega) HP3.out HX3.out
        | ok u r2 =>
          have e9 := nd_ok hn
          have HX3 : Hid (X = .ok a r2) := Lib.hid (by rw [HX2.out, hn]; rfl)
          subst e9
          have ND := Lib.hid (s_want_yes g [41] r2 false _ HP2.out)
          clear hn HX2
          go_wp2_with fail
          refine ND.out.mono ?_
          rintro e w3 ⟨rfl, hp3, hg3⟩
          have HG3 := Lib.hid (grP_trans HG2.out hg3)
          have HO3 := Lib.hid (HO2.out.keptG hg3 hgl)
          have HP3 := Lib.hid hp3
          clear hg3 hp3
          go_wp2_with fail
          go_ret
          exact retS_ok HG3.out HO3.out HP3.out HX3.out
    rw [if_neg hb] at hXX
    rw [decide_eq_false hb] at e2
    by_cases h2 : x = kTrue
    · subst h2
      rw [if_pos rfl] at hXX
      have HX := Lib.hid hXX
      clear e1 e2 e3 e4
      have e1 : ((tx kTrue).toList == [110, 111, 116]) = false := by rw [eq_lit]; decide
      have e2 : ((tx kTrue).toList == [40]) = false := by rw [eq_lit]; decide
      have e3 : ((tx kTrue).toList == [116, 114, 117, 101]) = true := by rw [eq_lit]; decide
      have e4 : ((tx kTrue).toList == [102, 97, 108, 115, 101]) = false := by rw [eq_lit]; decide
      clear hXX hne hp EX FA BL hkd hxl other
      go_enter Tryz.func140, Tryz.ntmps140
      go_wp2_with fail
      refine PK.out.mono ?_
      rintro e w1 ⟨rfl, hb1⟩
      obtain ⟨p, off, n, cap, k9, c0', c1', c2', f1', f2', hkn, hn9, hpg, d1, hpl, hss⟩ := (HS.out.later hb1).cons
      have HG1 := Lib.hid (grP_set (j := 1) (grP_later (grP_refl w (some g)) hb1) (.int .i64 ((k9 : Int) + 1)))
      have HP1 := Lib.hid hss
      have hw1 : IntKind.i64.wrap ((k9 : Int) + 1) = (k9 : Int) + 1 := IntWalk.i64_in _ (by omega)
      have hsz1 : w.heap.size ≤ (w1.setCell ⟨g, 1, none⟩ (.int .i64 ((k9 : Int) + 1))).heap.size := HG1.out.size
      clear hb1 hss d1
      go_wp2_with fail
      go_ret
      exact retS_ok (grP_later HG1.out (by exact (Later.refl _).alloc _)) (by have h := ownR_one (w1.setCell ⟨g, 1, none⟩ (.int .i64 ((k9 : Int) + 1))) w.heap.size hsz1 2 [] 0 ⟨⟨by show _ ≤ (2 : Int); omega, by show (2 : Int) ≤ _; omega⟩, by simp, ⟨by show _ ≤ (0 : Int); omega, by show (0 : Int) ≤ _; omega⟩⟩; rw [World.size_setCell] at h; exact h) (HP1.out.later ((Later.refl _).alloc _)) HX.out
    rw [if_neg h2] at hXX
    rw [decide_eq_false h2] at e3
    by_cases h3 : x = kFalse
    · subst h3
      rw [if_pos rfl] at hXX
      have HX := Lib.hid hXX
      clear e1 e2 e3 e4
      have e1 : ((tx kFalse).toList == [110, 111, 116]) = false := by rw [eq_lit]; decide
      have e2 : ((tx kFalse).toList == [40]) = false := by rw [eq_lit]; decide
      have e3 : ((tx kFalse).toList == [116, 114, 117, 101]) = false := by rw [eq_lit]; decide
      have e4 : ((tx kFalse).toList == [102, 97, 108, 115, 101]) = true := by rw [eq_lit]; decide
      clear hXX hne hp EX FA BL hkd hxl other
      go_enter Tryz.func140, Tryz.ntmps140
      go_wp2_with fail
      refine PK.out.mono ?_
      rintro e w1 ⟨rfl, hb1⟩
      obtain ⟨p, off, n, cap, k9, c0', c1', c2', f1', f2', hkn, hn9, hpg, d1, hpl, hss⟩ := (HS.out.later hb1).cons
      have HG1 := Lib.hid (grP_set (j := 1) (grP_later (grP_refl w (some g)) hb1) (.int .i64 ((k9 : Int) + 1)))
      have HP1 := Lib.hid hss
      have hw1 : IntKind.i64.wrap ((k9 : Int) + 1) = (k9 : Int) + 1 := IntWalk.i64_in _ (by omega)
      have hsz1 : w.heap.size ≤ (w1.setCell ⟨g, 1, none⟩ (.int .i64 ((k9 : Int) + 1))).heap.size := HG1.out.size
      clear hb1 hss d1
      go_wp2_with fail
      go_ret
      exact retS_ok (grP_later HG1.out (by exact (Later.refl _).alloc _)) (by have h := ownR_one (w1.setCell ⟨g, 1, none⟩ (.int .i64 ((k9 : Int) + 1))) w.heap.size hsz1 3 [] 0 ⟨⟨by show _ ≤ (3 : Int); omega, by show (3 : Int) ≤ _; omega⟩, by simp, ⟨by show _ ≤ (0 : Int); omega, by show (0 : Int) ≤ _; omega⟩⟩; rw [World.size_setCell] at h; exact h) (HP1.out.later ((Later.refl _).alloc _)) HX.out
    rw [if_neg h3] at hXX
    rw [decide_eq_false h3] at e4
    by_cases h4 : x = kNot
    · subst h4
      rw [if_pos rfl] at hXX
      have hq : prs f .factor r ≠ .out := by intro e; rw [e] at hXX; exact hne hXX
      have CF := Lib.hid (fun W h1 => FA r W g h1 (by omega) hq)
      obtain ⟨q, hqq⟩ : ∃ q, q = prs f .factor r := ⟨_, rfl⟩
      have HQ := Lib.hid hqq
      rw [← hqq] at hXX hq CF
      have HX := Lib.hid hXX
      clear e1 e2 e3 e4
      have e1 : ((tx kNot).toList == [110, 111, 116]) = true := by rw [eq_lit]; decide
      clear hXX hne hp EX FA BL hqq hkd hxl other
      go_enter Tryz.func140, Tryz.ntmps140
      go_wp2_with fail
      refine PK.out.mono ?_
      rintro e w1 ⟨rfl, hb1⟩
      obtain ⟨p, off, n, cap, k9, c0', c1', c2', f1', f2', hkn, hn9, hpg, d1, hpl, hss⟩ := (HS.out.later hb1).cons
      have HG1 := Lib.hid (grP_set (j := 1) (grP_later (grP_refl w (some g)) hb1) (.int .i64 ((k9 : Int) + 1)))
      have HP1 := Lib.hid hss
      have hw1 : IntKind.i64.wrap ((k9 : Int) + 1) = (k9 : Int) + 1 := IntWalk.i64_in _ (by omega)
      have hsz1 : w.heap.size ≤ (w1.setCell ⟨g, 1, none⟩ (.int .i64 ((k9 : Int) + 1))).heap.size := HG1.out.size
      clear hb1 hss d1
      go_wp2_with fail
      refine (CF.out _ HP1.out).mono ?_
      rintro e w3 ⟨hg3, hr⟩
      have HG3 := Lib.hid (grP_trans HG1.out hg3)
      have hsz3 : w.heap.size ≤ w3.heap.size := HG3.out.size
      cases q with
      | out => exact absurd rfl hq
      | bad =>
        obtain ⟨v, L, T', rfl, ho, hL, hl, hp3⟩ := hr
        have HO3 := Lib.hid (ho.mono hsz1)
        have HP3 := Lib.hid hp3
        have HX2 : Hid (X = .bad) := Lib.hid HX.out
        have la1 : L.length ≤ 1000000000 := by omega
        clear hg3 ho hL hp3
        go_wp2_with (at_builtin; refine appR rfl _ _ 47 36 (.agg #[.int .i64 0, .string ⟨#[]⟩, .int .i64 0]) 32 info_trmP Tryz.underlying36 rfl (by omega) rfl w.heap.size _ _ _ (L) 4 [] 0 HO3.out rfl rfl ⟨⟨by show _ ≤ (4 : Int); omega, by show (4 : Int) ≤ _; omega⟩, by simp, ⟨by show _ ≤ (0 : Int); omega, by show (0 : Int) ≤ _; omega⟩⟩ la1 hsz3 ?_; intro v5 w5 ho5 hg5; have O5 := Lib.hid ho5; have HG5 := Lib.hid (grP_own HG3.out hg5 (fun q e => (HO3.out.lt q e).1)); have HP5 := Lib.hid (HP3.out.grown hg5 (fun q e => by have := (HO3.out.lt q e).1; omega)); clear ho5 hg5)
        go_ret
        exact retS_bad HG5.out O5.out (by simp) (by rw [List.length_append]; simp only [List.length_cons, List.length_nil]; omega) HP5.out HX2.out
      | ok a r1 =>
        obtain ⟨v, rfl, ho, hp3⟩ := hr
        obtain ⟨la, _, _⟩ := prs_ok f .factor r a r1 trivial HQ.out.symm
        simp only [accL] at la
        have HO3 := Lib.hid (ho.mono hsz1)
        have HP3 := Lib.hid hp3
        have HX2 : Hid (X = .ok (a ++ [(4, [], 0)]) r1) := Lib.hid HX.out
        have la1 : a.length ≤ 1000000000 := by omega
        clear hg3 ho hp3 HX
        go_wp2_with (at_builtin; refine appR rfl _ _ 47 36 (.agg #[.int .i64 0, .string ⟨#[]⟩, .int .i64 0]) 32 info_trmP Tryz.underlying36 rfl (by omega) rfl w.heap.size _ _ _ (a) 4 [] 0 HO3.out rfl rfl ⟨⟨by show _ ≤ (4 : Int); omega, by show (4 : Int) ≤ _; omega⟩, by simp, ⟨by show _ ≤ (0 : Int); omega, by show (0 : Int) ≤ _; omega⟩⟩ la1 hsz3 ?_; intro v5 w5 ho5 hg5; have O5 := Lib.hid ho5; have HG5 := Lib.hid (grP_own HG3.out hg5 (fun q e => (HO3.out.lt q e).1)); have HP5 := Lib.hid (HP3.out.grown hg5 (fun q e => by have := (HO3.out.lt q e).1; omega)); clear ho5 hg5)
        go_ret
        exact retS_ok HG5.out O5.out HP5.out HX2.out
    rw [if_neg h4] at hXX
    rw [decide_eq_false h4] at e1
    have KW := Lib.hid (fun W => s_Keyword (tx x) W)
    rw [tx_data] at KW
    by_cases h5 : bkK x ≠ 0
    · rw [if_pos h5] at hXX
      rw [kwI_blk x h5] at KW
      have hk := bkK_mem h5
      obtain ⟨k, hkk⟩ : ∃ k, k = bkK x := ⟨_, rfl⟩
      rw [← hkk] at KW hXX hk
      have hq : prs f (.block k) r ≠ .out := by intro e; rw [e] at hXX; exact hne hXX
      have CB := Lib.hid (fun W h1 => BL k hk r W g h1 (by omega) hq)
      obtain ⟨q, hqq⟩ : ∃ q, q = prs f (.block k) r := ⟨_, rfl⟩
      rw [← hqq] at hXX hq CB
      have HX := Lib.hid hXX
      have HS2 := Lib.hid HS.out
      obtain ⟨s, hs⟩ : ∃ s, s = tx x := ⟨_, rfl⟩
      rw [← hs] at PK KW e1 e2 e3 e4
      simp only [kNot, kTrue, kFalse] at e1 e3 e4
      clear hXX hne hp EX FA BL hqq hkd hxl other hkk h5 h2 h3 h4 hb hs
      rcases (show k = 7 ∨ k = 8 ∨ k = 9 ∨ k = 10 ∨ k = 11 ∨ k = 12 by omega) with e | e | e | e | e | e <;> subst e
      all_goals
        go_enter Tryz.func140, Tryz.ntmps140
        go_wp2_with fail
        refine PK.out.mono ?_
        rintro e w1 ⟨rfl, hb1⟩
        have H0 := Lib.hid hb1
        clear hb1
        go_wp2_with fail
        refine (KW.out _).mono ?_
        rintro e w1 ⟨rfl, hb2⟩
        have hb1 := Later.trans H0.out hb2
        clear hb2
        obtain ⟨p, off, n, cap, k9, c0', c1', c2', f1', f2', hkn, hn9, hpg, d1, hpl, hss⟩ := (HS.out.later hb1).cons
        have HG1 := Lib.hid (grP_set (j := 1) (grP_later (grP_refl w (some g)) hb1) (.int .i64 ((k9 : Int) + 1)))
        have HP1 := Lib.hid hss
        have hw1 : IntKind.i64.wrap ((k9 : Int) + 1) = (k9 : Int) + 1 := IntWalk.i64_in _ (by omega)
        clear hb1 hss d1
        go_wp2_with fail
        refine (KW.out _).mono ?_
        rintro e w2 ⟨rfl, hb2⟩
        have HG2 := Lib.hid (grP_later HG1.out hb2)
        have HP2 := Lib.hid (HP1.out.later hb2)
        have hsz2 : w.heap.size ≤ w2.heap.size := HG2.out.size
        clear hb2
        go_wp2_with fail
        refine (CB.out _ HP2.out).mono ?_
        rintro e w3 ⟨hg3, hr⟩
        have HG3 := Lib.hid (grP_trans HG2.out hg3)
        cases q with
        | out => exact absurd rfl hq
        | bad =>
          obtain ⟨v, L, T', rfl, ho, hL, hl, hp3⟩ := hr
          have HO3 := Lib.hid (ho.mono hsz2)
          have HP3 := Lib.hid hp3
          have HL := Lib.hid hL
          clear hg3 ho hL hp3
          go_wp2_with fail
          go_ret
          exact retS_bad HG3.out HO3.out HL.out (by simp only [List.length_cons]; omega) HP3.out HX.out
        | ok a r1 =>
          obtain ⟨v, rfl, ho, hp3⟩ := hr
          have HO3 := Lib.hid (ho.mono hsz2)
          have HP3 := Lib.hid hp3
          clear hg3 ho hp3
          go_wp2_with fail
          go_ret
          exact retS_ok HG3.out HO3.out HP3.out HX.out
    rw [if_neg h5] at hXX
    by_cases h6 : nmB x = true
    · rw [if_pos h6] at hXX
      have HX := Lib.hid hXX
      obtain ⟨k0, k1⟩ := kwI_oth x (by simpa using h5)
      have WN := Lib.hid (fun W h => s_wantName_yes (N := N) g x r false W h h6)
      have HR : Hid (TrR (1, x, 0)) := Lib.hid ⟨⟨by show _ ≤ (1 : Int); omega, by show (1 : Int) ≤ _; omega⟩, by show x.length ≤ 1048576; omega, ⟨by show _ ≤ (0 : Int); omega, by show (0 : Int) ≤ _; omega⟩⟩
      have OW : Hid (∀ (s : ByteArray), s = tx x → ∀ W : World, w.heap.size ≤ W.heap.size → OwnR (W.alloc (.cells #[.int .i64 1, .string s, .int .i64 0] 47)) w.heap.size 47 (.slice (some ⟨W.heap.size, 0, none⟩) 1 1) [(1, x, 0)]) := Lib.hid (by rintro s rfl W h; exact ownR_one W w.heap.size h 1 x 0 HR.out)
      obtain ⟨q, hq⟩ : ∃ q, q = kwI x := ⟨_, rfl⟩
      rw [← hq] at KW k0 k1
      obtain ⟨s, hs⟩ : ∃ s, s = tx x := ⟨_, rfl⟩
      have OW := Lib.hid (OW.out s hs)
      rw [← hs] at PK KW WN e1 e2 e3 e4
      simp only [kNot, kTrue, kFalse] at e1 e3 e4
      clear hXX hne hp EX FA BL hkd hxl other h5 h2 h3 h4 hb hs hq h6 HR
      go_enter Tryz.func140, Tryz.ntmps140
      go_wp2_with fail
      refine PK.out.mono ?_
      rintro e w1 ⟨rfl, hb1⟩
      have H0 := Lib.hid hb1
      clear hb1
      go_wp2_with fail
      refine (KW.out _).mono ?_
      rintro e w2 ⟨rfl, hb2⟩
      have H2 := Lib.hid (Later.trans H0.out hb2)
      clear hb2
      go_wp2_with fail
      refine (WN.out _ (HS.out.later H2.out)).mono ?_
      rintro e w3 ⟨rfl, hp3, hg3⟩
      have HP3 := Lib.hid hp3
      have HG3 := Lib.hid (grP_trans (grP_later (grP_refl w (some g)) H2.out) hg3)
      have hsz3 : w.heap.size ≤ w3.heap.size := HG3.out.size
      clear hp3 hg3
      go_wp2_with fail
      go_ret
      exact retS_ok (grP_later HG3.out (by exact (Later.refl _).alloc _)) (OW.out w3 hsz3) (HP3.out.later ((Later.refl _).alloc _)) HX.out
    · rw [if_neg h6] at hXX
      exact other.out x rfl hXX hb h2 h3 h4 (by simpa using h5) (by simpa using h6)
end Go.Proofs.YtggnhdeldmkdmaaGreatDoor
