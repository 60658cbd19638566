/- The parser's recursion, of the program: factors and blocks, and all of them. -/
import Derived.Test.YtggnhdeldmkdmaaGreatDoorPpS
namespace Go.Proofs.YtggnhdeldmkdmaaGreatDoor
open Go.RowKit Go.Shelf
set_option maxHeartbeats 4000000
set_option maxRecDepth 100000
set_option linter.unusedVariables false
set_option linter.unusedSimpArgs false
theorem ownR_one (w : World) (base : Nat) (h : base ≤ w.heap.size) (k : Int) (t : List UInt8) (n : Int) (hr : TrR (k, t, n)) : OwnR (w.alloc (.cells #[.int .i64 k, .string (tx t), .int .i64 n] 47)) base 47 (.slice (some ⟨w.heap.size, 0, none⟩) 1 1) [(k, t, n)] :=
  ⟨⟨rfl, .inr ⟨w.heap.size, 1, #[.int .i64 k, .string (tx t), .int .i64 n], rfl, h, heap_alloc_new w _, Nat.le_refl _, by unfold maxLen; omega, rfl, rfl⟩⟩, fun x hx => by simp at hx; subst hx; exact hr⟩
theorem kbw_name (x : List UInt8) (h : nmB x = true) : kbw x = 0 := by
  refine kbw_none x fun j hj e => ?_
  subst e
  have : ∀ j : Fin 13, nmB (opW j.val) = false := by decide +kernel
  rw [this ⟨j, hj⟩] at h; cases h
theorem kbw_else (x : List UInt8) (h1 : x ≠ kTrue) (h2 : x ≠ kFalse) (h3 : x ≠ kNot) (h4 : bkK x = 0) : kbw x = 0 ∨ kbw x = 5 ∨ kbw x = 6 := by
  unfold kbw
  rw [if_neg h1, if_neg h2, if_neg h3, h4]
  split
  · exact .inr (.inl rfl)
  · split
    · exact .inr (.inr rfl)
    · exact .inl rfl
theorem kbw_blk (x : List UInt8) (h4 : bkK x ≠ 0) : kbw x = bkK x := by
  unfold kbw
  have hm : x ∈ bks := by
    unfold bkK at h4
    split at h4
    · rename_i h; simpa using h
    · exact absurd rfl h4
  have : ∀ y ∈ bks, y ≠ kTrue ∧ y ≠ kFalse ∧ y ≠ kNot ∧ y ≠ kAnd ∧ y ≠ kOr := by decide
  obtain ⟨e1, e2, e3, e4, e5⟩ := this x hm
  rw [if_neg e1, if_neg e2, if_neg e3, if_neg e4, if_neg e5]
def BlkI (f k : Nat) : Prop := ∀ (T : TT) (w : World) (g : Nat), PSt w g T → Env w g → T.length ≤ 100000 → prs f (.block k) T ≠ .out → Calls Tryz.prog 156 #[.pointer (some ⟨g, 0, none⟩), .int .i64 k] w (RetI w g (prs f (.block k) T))
theorem i_factor (f : Nat) (EX : OpI 62 f (.chain true)) (FA : OpI 139 f .factor) (BL : ∀ k, 7 ≤ k ∧ k ≤ 12 → BlkI f k) : OpI 139 (f + 1) .factor := by
  intro T w g hp hE hT hne
  obtain ⟨X, hXX⟩ : ∃ X, X = prs (f + 1) .factor T := ⟨_, rfl⟩
  rw [← hXX] at hne ⊢
  have hgl := hp.lt
  cases T with
  | nil =>
    have HX : Hid (X = .bad) := Lib.hid hXX
    have SK := Lib.hid (i_skip_no g [40] [] w hp (by simp) (by simp))
    have TK := Lib.hid (i_take_nil g w hp)
    clear hXX hne hp hE hT EX FA BL
    go_enter Tryz.func139, Tryz.ntmps139
    go_wp2_with fail
    refine SK.out.mono ?_
    rintro e w1 ⟨rfl, rfl⟩
    go_wp2_with fail
    refine TK.out.mono ?_
    rintro e w1 ⟨rfl, rfl⟩
    unfold Bad
    go_wp2_with fail
    all_goals exact ⟨rfl, retI_bad (grP_refl _ _) HX.out⟩
  | cons x r =>
    simp only [prs] at hXX
    simp only [List.length_cons] at hT
    have hkd := hp.valid x (by simp)
    have hxl := (kd_len hkd).2
    have hxn : x ≠ [] := by intro e; have := (kd_len hkd).1; rw [e] at this; simp at this
    by_cases hb : x = [40]
    · subst hb
      rw [if_pos rfl] at hXX
      have SK := Lib.hid (i_skip_yes g [40] r w hp)
      have HE := Lib.hid hE
      have CE := Lib.hid (fun W h1 h2 h3 => EX r W g h1 h2 (by omega) h3)
      have hq : prs f (.chain true) r ≠ .out := by intro e; rw [e] at hXX; exact hne hXX
      obtain ⟨q, hqq⟩ : ∃ q, q = prs f (.chain true) r := ⟨_, rfl⟩
      rw [← hqq] at hXX hq CE
      have HX := Lib.hid hXX
      clear hXX hne hp hE hT EX FA BL hqq hkd hxl hxn
      go_enter Tryz.func139, Tryz.ntmps139
      go_wp2_with fail
      refine SK.out.mono ?_
      rintro e w1 ⟨rfl, hp1, hg1⟩
      have HP1 := Lib.hid hp1; have HG1 := Lib.hid hg1; have HE1 := Lib.hid (HE.out.grown hg1)
      clear hp1 hg1
      go_wp2_with fail
      refine (CE.out _ HP1.out HE1.out hq).mono ?_
      rintro e w2 ⟨hg2, hr⟩
      have HG2 := Lib.hid (grP_trans HG1.out hg2)
      cases q with
      | out => exact absurd rfl hq
      | bad =>
        have hr : e = Bad := hr
        subst hr
        have HX2 : Hid (X = .bad) := Lib.hid HX.out
        clear hg2
        unfold Bad
        go_wp2_with fail
        all_goals exact ⟨rfl, retI_bad HG2.out HX2.out⟩
      | ok a r1 =>
        obtain ⟨v, rfl, ho, hp2⟩ := hr
        have hsz : w.heap.size ≤ w1.heap.size := HG1.out.size
        have HO2 := Lib.hid (ho.mono hsz)
        have HP2 := Lib.hid hp2
        have HX2 : Hid (X = (nd [41] r1).bind fun _ r2 => .ok a r2) := Lib.hid HX.out
        clear hg2 ho hp2 HX
        cases hn : nd [41] r1 with
        | out => exact absurd hn (nd_in _ _)
        | bad =>
          have ND := Lib.hid (i_need_no g [41] r1 _ HP2.out hn)
          have HX3 : Hid (X = .bad) := Lib.hid (by rw [HX2.out, hn]; rfl)
          clear hn
          go_wp2_with fail
          refine ND.out.mono ?_
          rintro e w3 ⟨rfl, hg3⟩
          have HG3 := Lib.hid (grP_trans HG2.out hg3)
          clear hg3
          unfold Bad
          go_wp2_with fail
          all_goals exact ⟨rfl, retI_bad HG3.out HX3.out⟩
        | ok u r2 =>
          have e2 := nd_ok hn
          have HX3 : Hid (X = .ok a r2) := Lib.hid (by rw [HX2.out, hn]; rfl)
          subst e2
          have ND := Lib.hid (i_need_yes g [41] r2 _ HP2.out)
          clear hn HX2
          go_wp2_with fail
          refine ND.out.mono ?_
          rintro e w3 ⟨rfl, hp3, hg3⟩
          have HG3 := Lib.hid (grP_trans HG2.out hg3)
          have HO3 := Lib.hid (HO2.out.keptG hg3 hgl)
          have HP3 := Lib.hid hp3
          clear hg3 hp3 HO2
          go_wp2_with fail
          go_ret
          exact retI_ok HG3.out HO3.out HP3.out HX3.out
    · rw [if_neg hb] at hXX
      have SK := Lib.hid (i_skip_no g [40] (x :: r) w hp (by simpa using hb) (by simp))
      have TK := Lib.hid (i_take_cons g x r w hp)
      have KW := Lib.hid (fun W h => i_kindByWord x W hxn h)
      have AY := Lib.hid (fun W h => i_asName_yes x W (by omega) h)
      have AN := Lib.hid (fun W h => i_asName_no x W (by omega) h)
      have HE := Lib.hid hE
      clear hp hE
      by_cases h2 : x = kTrue
      · subst h2
        rw [if_pos rfl] at hXX
        rw [show kbw kTrue = 2 by decide] at KW
        have HX := Lib.hid hXX
        clear hXX hne hT EX FA BL hkd hxl hxn
        go_enter Tryz.func139, Tryz.ntmps139
        go_wp2_with fail
        refine SK.out.mono ?_
        rintro e w1 ⟨rfl, rfl⟩
        go_wp2_with fail
        refine TK.out.mono ?_
        rintro e w1 ⟨rfl, hp1, hg1⟩
        have HP1 := Lib.hid hp1; have HG1 := Lib.hid hg1; have HE1 := Lib.hid (HE.out.grown hg1)
        clear hp1 hg1
        go_wp2_with fail
        refine (KW.out _ HE1.out.ops).mono ?_
        rintro e w2 ⟨rfl, hb2⟩
        have HP2 := Lib.hid (HP1.out.later hb2); have HG2 := Lib.hid (grP_later HG1.out hb2); have HE2 := Lib.hid (HE1.out.later hb2)
        have hsz2 : w.heap.size ≤ w2.heap.size := HG2.out.size
        clear hb2
        go_wp2_with fail
        go_ret
        exact retI_ok (grP_later HG2.out (by exact (Later.refl _).alloc _)) (ownR_one w2 w.heap.size hsz2 2 [] 0 ⟨⟨by show _ ≤ (2 : Int); omega, by show (2 : Int) ≤ _; omega⟩, by simp, ⟨by show _ ≤ (0 : Int); omega, by show (0 : Int) ≤ _; omega⟩⟩) (HP2.out.later ((Later.refl _).alloc _)) HX.out
      rw [if_neg h2] at hXX
      by_cases h3 : x = kFalse
      · subst h3
        rw [if_pos rfl] at hXX
        rw [show kbw kFalse = 3 by decide] at KW
        have HX := Lib.hid hXX
        clear hXX hne hT EX FA BL hkd hxl hxn
        go_enter Tryz.func139, Tryz.ntmps139
        go_wp2_with fail
        refine SK.out.mono ?_
        rintro e w1 ⟨rfl, rfl⟩
        go_wp2_with fail
        refine TK.out.mono ?_
        rintro e w1 ⟨rfl, hp1, hg1⟩
        have HP1 := Lib.hid hp1; have HG1 := Lib.hid hg1; have HE1 := Lib.hid (HE.out.grown hg1)
        clear hp1 hg1
        go_wp2_with fail
        refine (KW.out _ HE1.out.ops).mono ?_
        rintro e w2 ⟨rfl, hb2⟩
        have HP2 := Lib.hid (HP1.out.later hb2); have HG2 := Lib.hid (grP_later HG1.out hb2); have HE2 := Lib.hid (HE1.out.later hb2)
        have hsz2 : w.heap.size ≤ w2.heap.size := HG2.out.size
        clear hb2
        go_wp2_with fail
        go_ret
        exact retI_ok (grP_later HG2.out (by exact (Later.refl _).alloc _)) (ownR_one w2 w.heap.size hsz2 3 [] 0 ⟨⟨by show _ ≤ (3 : Int); omega, by show (3 : Int) ≤ _; omega⟩, by simp, ⟨by show _ ≤ (0 : Int); omega, by show (0 : Int) ≤ _; omega⟩⟩) (HP2.out.later ((Later.refl _).alloc _)) HX.out
      rw [if_neg h3] at hXX
      by_cases h4 : x = kNot
      · subst h4
        rw [if_pos rfl] at hXX
        rw [show kbw kNot = 4 by decide] at KW
        have CF := Lib.hid (fun W h1 h2 h3 => FA r W g h1 h2 (by omega) h3)
        have hq : prs f .factor r ≠ .out := by intro e; rw [e] at hXX; exact hne hXX
        obtain ⟨q, hqq⟩ : ∃ q, q = prs f .factor r := ⟨_, rfl⟩
        have HQ := Lib.hid hqq
        rw [← hqq] at hXX hq CF
        have HX := Lib.hid hXX
        clear hXX hne EX FA BL hqq hkd hxl hxn
        go_enter Tryz.func139, Tryz.ntmps139
        go_wp2_with fail
        refine SK.out.mono ?_
        rintro e w1 ⟨rfl, rfl⟩
        go_wp2_with fail
        refine TK.out.mono ?_
        rintro e w1 ⟨rfl, hp1, hg1⟩
        have HP1 := Lib.hid hp1; have HG1 := Lib.hid hg1; have HE1 := Lib.hid (HE.out.grown hg1)
        clear hp1 hg1
        go_wp2_with fail
        refine (KW.out _ HE1.out.ops).mono ?_
        rintro e w2 ⟨rfl, hb2⟩
        have HP2 := Lib.hid (HP1.out.later hb2); have HG2 := Lib.hid (grP_later HG1.out hb2); have HE2 := Lib.hid (HE1.out.later hb2)
        have hsz2 : w.heap.size ≤ w2.heap.size := HG2.out.size
        clear hb2
        go_wp2_with fail
        refine (CF.out _ HP2.out HE2.out hq).mono ?_
        rintro e w3 ⟨hg3, hr⟩
        have HG3 := Lib.hid (grP_trans HG2.out hg3)
        cases q with
        | out => exact absurd rfl hq
        | bad =>
          have hr : e = Bad := hr
          subst hr
          have HX2 : Hid (X = .bad) := Lib.hid HX.out
          clear hg3
          unfold Bad
          go_wp2_with fail
          all_goals exact ⟨rfl, retI_bad HG3.out HX2.out⟩
        | ok a r1 =>
          obtain ⟨v, rfl, ho, hp3⟩ := hr
          obtain ⟨la, _, _⟩ := prs_ok f .factor r a r1 trivial HQ.out.symm
          simp only [accL] at la
          have HO3 := Lib.hid (ho.mono hsz2)
          have HP3 := Lib.hid hp3
          have HX2 : Hid (X = .ok (a ++ [(4, [], 0)]) r1) := Lib.hid HX.out
          have hsz3 : w.heap.size ≤ w3.heap.size := HG3.out.size
          have la1 : a.length ≤ 1000000000 := by omega
          clear hg3 ho hp3 HX
          go_wp2_with (at_builtin; refine appR rfl _ _ 47 36 (.agg #[.int .i64 0, .string ⟨#[]⟩, .int .i64 0]) 32 info_trmP Tryz.underlying36 rfl (by omega) rfl w.heap.size _ _ _ a 4 [] 0 HO3.out rfl rfl ⟨⟨by show _ ≤ (4 : Int); omega, by show (4 : Int) ≤ _; omega⟩, by simp, ⟨by show _ ≤ (0 : Int); omega, by show (0 : Int) ≤ _; omega⟩⟩ la1 hsz3 ?_; intro v5 w5 ho5 hg5; have O5 := Lib.hid ho5; have HG5 := Lib.hid (grP_own HG3.out hg5 (fun q e => (HO3.out.lt q e).1)); have HP5 := Lib.hid (HP3.out.grown hg5 (fun q e => by have := (HO3.out.lt q e).1; omega)); clear ho5 hg5)
          go_ret
          exact retI_ok HG5.out O5.out HP5.out HX2.out
      rw [if_neg h4] at hXX
      by_cases h5 : bkK x ≠ 0
      · rw [if_pos h5] at hXX
        rw [kbw_blk x h5] at KW
        have hk := bkK_mem h5
        obtain ⟨k, hkk⟩ : ∃ k, k = bkK x := ⟨_, rfl⟩
        rw [← hkk] at KW hXX hk
        have CB := Lib.hid (fun W h1 h2 h3 => BL k hk r W g h1 h2 (by omega) h3)
        have hq : prs f (.block k) r ≠ .out := by intro e; rw [e] at hXX; exact hne hXX
        obtain ⟨q, hqq⟩ : ∃ q, q = prs f (.block k) r := ⟨_, rfl⟩
        rw [← hqq] at hXX hq CB
        have HX := Lib.hid hXX
        clear hXX hne EX FA BL hqq hkd hxl hxn hkk h5 h2 h3 h4 hb
        obtain ⟨s, hs⟩ : ∃ s, s = tx x := ⟨_, rfl⟩
        rw [← hs] at TK KW AY AN
        clear hs
        rcases (show k = 7 ∨ k = 8 ∨ k = 9 ∨ k = 10 ∨ k = 11 ∨ k = 12 by omega) with e | e | e | e | e | e <;> subst e
        all_goals
          go_enter Tryz.func139, Tryz.ntmps139
          go_wp2_with fail
          refine SK.out.mono ?_
          rintro e w1 ⟨rfl, rfl⟩
          go_wp2_with fail
          refine TK.out.mono ?_
          rintro e w1 ⟨rfl, hp1, hg1⟩
          have HP1 := Lib.hid hp1; have HG1 := Lib.hid hg1; have HE1 := Lib.hid (HE.out.grown hg1)
          clear hp1 hg1
          go_wp2_with fail
          refine (KW.out _ HE1.out.ops).mono ?_
          rintro e w2 ⟨rfl, hb2⟩
          have HP2 := Lib.hid (HP1.out.later hb2); have HG2 := Lib.hid (grP_later HG1.out hb2); have HE2 := Lib.hid (HE1.out.later hb2)
          have hsz2 : w.heap.size ≤ w2.heap.size := HG2.out.size
          clear hb2
          go_wp2_with fail
          refine (CB.out _ HP2.out HE2.out hq).mono ?_
          rintro e w3 ⟨hg3, hr⟩
          have HG3 := Lib.hid (grP_trans HG2.out hg3)
          cases q with
          | out => exact absurd rfl hq
          | bad =>
            have hr : e = Bad := hr
            subst hr
            clear hg3
            unfold Bad
            go_wp2_with fail
            all_goals exact ⟨rfl, retI_bad HG3.out HX.out⟩
          | ok a r1 =>
            obtain ⟨v, rfl, ho, hp3⟩ := hr
            have HO3 := Lib.hid (ho.mono hsz2)
            have HP3 := Lib.hid hp3
            clear hg3 ho hp3
            go_wp2_with fail
            go_ret
            exact retI_ok HG3.out HO3.out HP3.out HX.out
      rw [if_neg h5] at hXX
      by_cases h6 : nmB x = true
      · rw [if_pos h6] at hXX
        rw [kbw_name x h6] at KW
        have HX := Lib.hid hXX
        have AY := Lib.hid (fun W => AY.out W h6)
        have HR : Hid (TrR (1, x, 0)) := Lib.hid ⟨⟨by show _ ≤ (1 : Int); omega, by show (1 : Int) ≤ _; omega⟩, by show x.length ≤ 1048576; omega, ⟨by show _ ≤ (0 : Int); omega, by show (0 : Int) ≤ _; omega⟩⟩
        have OW : Hid (∀ (s : ByteArray), s = tx x → ∀ W : World, w.heap.size ≤ W.heap.size → OwnR (W.alloc (.cells #[.int .i64 1, .string s, .int .i64 0] 47)) w.heap.size 47 (.slice (some ⟨W.heap.size, 0, none⟩) 1 1) [(1, x, 0)]) := Lib.hid (by rintro s rfl W h; exact ownR_one W w.heap.size h 1 x 0 HR.out)
        clear hXX hne hT EX FA BL hkd hxl hxn h2 h3 h4 h5 hb h6 HR AN
        obtain ⟨s, hs⟩ : ∃ s, s = tx x := ⟨_, rfl⟩
        have OW := Lib.hid (OW.out s hs)
        rw [← hs] at TK KW AY
        clear hs
        go_enter Tryz.func139, Tryz.ntmps139
        go_wp2_with fail
        refine SK.out.mono ?_
        rintro e w1 ⟨rfl, rfl⟩
        go_wp2_with fail
        refine TK.out.mono ?_
        rintro e w1 ⟨rfl, hp1, hg1⟩
        have HP1 := Lib.hid hp1; have HG1 := Lib.hid hg1; have HE1 := Lib.hid (HE.out.grown hg1)
        clear hp1 hg1
        go_wp2_with fail
        refine (KW.out _ HE1.out.ops).mono ?_
        rintro e w2 ⟨rfl, hb2⟩
        have HP2 := Lib.hid (HP1.out.later hb2); have HG2 := Lib.hid (grP_later HG1.out hb2); have HE2 := Lib.hid (HE1.out.later hb2)
        have hsz2 : w.heap.size ≤ w2.heap.size := HG2.out.size
        clear hb2
        go_wp2_with fail
        refine (AY.out _).mono ?_
        rintro e w3 ⟨rfl, hb3⟩
        have HP3 := Lib.hid (HP2.out.later hb3); have HG3 := Lib.hid (grP_later HG2.out hb3)
        have hsz3 : w.heap.size ≤ w3.heap.size := HG3.out.size
        clear hb3
        go_wp2_with fail
        go_ret
        exact retI_ok (grP_later HG3.out (by exact (Later.refl _).alloc _)) (OW.out w3 hsz3) (HP3.out.later ((Later.refl _).alloc _)) HX.out
      · rw [if_neg h6] at hXX
        have HX := Lib.hid hXX
        have AN := Lib.hid (fun W => AN.out W (by simpa using h6))
        obtain ⟨k, hkk⟩ : ∃ k, k = kbw x := ⟨_, rfl⟩
        have hk := kbw_else x h2 h3 h4 (by simpa using h5)
        rw [← hkk] at KW hk
        clear hXX hne hT EX FA BL hkd hxl hxn h2 h3 h4 h5 hb h6 AY hkk
        obtain ⟨s, hs⟩ : ∃ s, s = tx x := ⟨_, rfl⟩
        rw [← hs] at TK KW AN
        clear hs
        rcases hk with e | e | e <;> subst e
        all_goals
          go_enter Tryz.func139, Tryz.ntmps139
          go_wp2_with fail
          refine SK.out.mono ?_
          rintro e w1 ⟨rfl, rfl⟩
          go_wp2_with fail
          refine TK.out.mono ?_
          rintro e w1 ⟨rfl, hp1, hg1⟩
          have HP1 := Lib.hid hp1; have HG1 := Lib.hid hg1; have HE1 := Lib.hid (HE.out.grown hg1)
          clear hp1 hg1
          go_wp2_with fail
          refine (KW.out _ HE1.out.ops).mono ?_
          rintro e w2 ⟨rfl, hb2⟩
          have HP2 := Lib.hid (HP1.out.later hb2); have HG2 := Lib.hid (grP_later HG1.out hb2); have HE2 := Lib.hid (HE1.out.later hb2)
          have hsz2 : w.heap.size ≤ w2.heap.size := HG2.out.size
          clear hb2
          go_wp2_with fail
          refine (AN.out _).mono ?_
          rintro e w3 ⟨rfl, hb3⟩
          have HG3 := Lib.hid (grP_later HG2.out hb3)
          clear hb3
          unfold Bad
          go_wp2_with fail
          all_goals exact ⟨rfl, retI_bad HG3.out HX.out⟩
end Go.Proofs.YtggnhdeldmkdmaaGreatDoor
