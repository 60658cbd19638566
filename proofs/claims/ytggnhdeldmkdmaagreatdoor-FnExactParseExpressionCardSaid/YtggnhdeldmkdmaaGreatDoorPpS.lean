/- The parser's recursion, of the program: chains, factors and blocks. -/
import Derived.Test.YtggnhdeldmkdmaaGreatDoorPpR
namespace Go.Proofs.YtggnhdeldmkdmaaGreatDoor
open Go.RowKit Go.Shelf
set_option maxHeartbeats 4000000
set_option maxRecDepth 100000
set_option linter.unusedVariables false
set_option linter.unusedSimpArgs false
/-- how many tokens are before the parser -/
def lenAt (w : World) (g : Nat) : Nat := match w.cell? ⟨g, 0, none⟩ with | some (.slice _ n _) => n | _ => 0
theorem PSt.lenAt {w : World} {g : Nat} {T : TT} (h : PSt w g T) : lenAt w g = T.length := by
  obtain ⟨a, n, cap, L, h1, _, _, h4, _, h6, _⟩ := h
  unfold Go.Proofs.YtggnhdeldmkdmaaGreatDoor.lenAt
  rw [h1, ← h6, List.length_map, h4.1]
/-- what an operand of a chain does -/
def OpI (F : FuncId) (f : Nat) (gl : Gl) : Prop := ∀ (T : TT) (w : World) (g : Nat), PSt w g T → Env w g → T.length ≤ 100000 → prs f gl T ≠ .out → Calls Tryz.prog F #[.pointer (some ⟨g, 0, none⟩)] w (RetI w g (prs f gl T))
theorem one_ne {a : List Trm} (h : One1 a) : a ≠ [] := by
  intro e
  have := h.1 0
  rw [e] at this
  cases this
theorem i_chain_true (f : Nat) (OP : ∀ f', f' ≤ f → OpI 113 f' (opd true)) (T : TT) (w : World) (g : Nat) (hp : PSt w g T) (hE : Env w g) (hT : T.length ≤ 100000) (hne : prs (f + 1) (.chain true) T ≠ .out) :
    Calls Tryz.prog 112 #[.pointer (some ⟨g, 0, none⟩), .int .i64 6, .func (.func 113) #[.pointer (some ⟨g, 0, none⟩)] #[]] w (RetI w g (prs (f + 1) (.chain true) T)) := by
  have hX : prs (f + 1) (.chain true) T = (prs f (opd true) T).bind fun a r => prs f (.loop true a) r := rfl
  obtain ⟨X, hXX⟩ : ∃ X, X = prs (f + 1) (.chain true) T := ⟨_, rfl⟩
  rw [← hXX] at hX hne ⊢
  clear hXX
  have hgl := hp.lt
  have HPW := Lib.hid hp
  cases hq : prs f (opd true) T with
  | out => rw [hq] at hX; exact absurd hX hne
  | bad =>
    have C1 := Lib.hid (OP f (Nat.le_refl _) T w g hp hE hT (by rw [hq]; intro e; cases e))
    rw [hq] at C1 hX
    have HX := Lib.hid (show X = .bad from hX)
    clear hX hne hp hE OP
    go_enter Tryz.func112, Tryz.ntmps112
    go_wp2_with fail
    refine C1.out.mono ?_
    rintro e w1 ⟨hg, he⟩
    have he : e = Bad := he
    subst he
    have HG := Lib.hid hg
    clear hg
    unfold Bad
    go_wp2_with fail
    all_goals exact ⟨rfl, retI_bad HG.out HX.out⟩
  | ok a r =>
    have C1 := Lib.hid (OP f (Nat.le_refl _) T w g hp hE hT (by rw [hq]; intro e; cases e))
    obtain ⟨la, oa, pre, hpre⟩ := prs_ok f (opd true) T a r (glOk_opd _) hq
    rw [accL_opd] at la
    rw [hq] at C1 hX
    have HX := Lib.hid (show X = prs f (.loop true a) r from hX)
    have HNE := Lib.hid hne
    have OA := Lib.hid oa
    have HOP := Lib.hid OP
    have HE := Lib.hid hE
    clear hX hne hp hE OP hq oa hpre
    go_enter Tryz.func112, Tryz.ntmps112
    go_wp2_with fail
    refine C1.out.mono ?_
    rintro e w1 ⟨hg, v, rfl, ho, hp1⟩
    have HG := Lib.hid hg
    have HO := Lib.hid ho
    have HP := Lib.hid hp1
    have HE1 := Lib.hid (HE.out.grown hg)
    clear hg ho hp1 C1
    go_wp2_with fail
    go_loopw [7] (fun v wr => (∃ (f' : Nat) (a : List Trm) (T' : TT), f' ≤ f ∧ OwnR wr w.heap.size 47 v a ∧ PSt wr g T' ∧ Env wr g ∧ w.grownBy wr (some g) ∧ One1 a ∧ a.length + T'.length ≤ T.length ∧ prs f' (.loop true a) T' = X)) (fun _ wr => lenAt wr g)
    case atStart => exact ⟨f, a, r, Nat.le_refl _, HO.out, HP.out, HE1.out, HG.out, OA.out, by omega, HX.out.symm⟩
    case round =>
      clear HX HO HP HE1 HG OA la
      obtain ⟨f', a, T', hf, ho, hp1, hE1, hg, ha, hl, hx⟩ := hrel
      have HO := Lib.hid ho; have HP := Lib.hid hp1; have HE1 := Lib.hid hE1; have HG := Lib.hid hg; have OA := Lib.hid ha
      have c0 := (hE1.ops 6 (by omega)).1
      have hgr : g < wr.heap.size := hp1.lt
      cases f' with
      | zero => exact absurd hx (by intro e; exact HNE.out e.symm)
      | succ f1 =>
        simp only [prs] at hx
        by_cases hc : T'.headD [] = opK true
        · rw [if_pos hc] at hx
          cases T' with
          | nil => simp [opK, kOr, kAnd] at hc
          | cons y T2 =>
            have hy : y = kOr := hc
            subst hy
            simp only [List.tail_cons] at hx
            simp only [List.length_cons] at hl
            have SK := Lib.hid (i_skip_yes g kOr T2 wr hp1)
            have HLA : Hid (lenAt wr g = T2.length + 1) := Lib.hid hp1.lenAt
            have HXX := Lib.hid hx
            have hq3 : ∀ q, prs f1 (opd true) T2 = q → q ≠ .out := by
              rintro q rfl e
              rw [e] at hx
              exact HNE.out hx.symm
            have C2 := Lib.hid (fun W h1 h2 => HOP.out f1 (by omega) T2 W g h1 h2 (by omega) (hq3 _ rfl))
            obtain ⟨q, hq⟩ : ∃ q, q = prs f1 (opd true) T2 := ⟨_, rfl⟩
            have HQ := Lib.hid hq
            have hqn := hq3 q hq.symm
            rw [← hq] at C2 HXX
            clear hx hq3 hc ho hp1 hE1 hg ha hq
            simp only [show opW 6 = kOr from rfl, show (6 * 3 : Nat) = 18 from rfl] at c0
            go_wp2_with fail
            refine SK.out.mono ?_
            rintro e w2 ⟨rfl, hp2, hg2⟩
            have HP2 := Lib.hid hp2
            have HE2 := Lib.hid (HE1.out.grown hg2)
            have HO2 := Lib.hid (HO.out.keptG hg2 hgl)
            have HG2 := Lib.hid (grP_trans HG.out hg2)
            have hsz2 : w.heap.size ≤ w2.heap.size := Nat.le_trans HG.out.size hg2.size
            clear hp2 hg2 SK c0
            cases q with
            | out => exact absurd rfl hqn
            | bad =>
              go_wp2_with fail
              refine (C2.out _ HP2.out HE2.out).mono ?_
              rintro e w3 ⟨hg3, he⟩
              have he : e = Bad := he
              subst he
              have HG3 := Lib.hid (grP_trans HG2.out hg3)
              clear hg3
              unfold Bad
              go_wp2_with fail
              all_goals exact ⟨rfl, retI_bad HG3.out HXX.out.symm⟩
            | ok bb r2 =>
              obtain ⟨lb, ob, _⟩ := prs_ok f1 (opd true) T2 bb r2 (glOk_opd _) HQ.out.symm
              rw [accL_opd] at lb
              have OB := Lib.hid ob
              clear ob hqn
              go_wp2_with fail
              refine (C2.out _ HP2.out HE2.out).mono ?_
              rintro e w3 ⟨hg3, u, rfl, ho3, hp3⟩
              have HG3 := Lib.hid (grP_trans HG2.out hg3)
              have HV3 := Lib.hid (HO2.out.keptG hg3 hgl)
              have HU3 := Lib.hid ho3
              have HP3 := Lib.hid hp3
              have HE3 := Lib.hid (HE2.out.grown hg3)
              have hsz3 : w.heap.size ≤ w3.heap.size := Nat.le_trans hsz2 hg3.size
              clear hg3 ho3 hp3 C2 HP2 HO2 HG2 HE2 HO HP HE1 HG
              have la1 : a.length ≤ 100000000 := by omega
              have lb1 : bb.length ≤ 100000000 := by omega
              have lab : (a ++ bb).length ≤ 1000000000 := by rw [List.length_append]; omega
              have NEB := Lib.hid (one_ne OB.out)
              go_wp2_with (first
                | (at_builtin; refine appRS rfl _ _ rfl w.heap.size _ _ a bb _ _ HV3.out HU3.out NEB.out rfl rfl la1 lb1 hsz3 ?_; intro v4 w4 ho4 hg4; have O4 := Lib.hid ho4; have HG4 := Lib.hid (grP_own HG3.out hg4 (fun q e => (HV3.out.lt q e).1)); have HP4 := Lib.hid (HP3.out.grown hg4 (fun q e => by have := (HV3.out.lt q e).1; omega)); have HE4 := Lib.hid (HE3.out.grownR hg4 (fun q e => by have := (HV3.out.lt q e).1; omega)); have hsz4 : w.heap.size ≤ w4.heap.size := Nat.le_trans hsz3 hg4.size; clear ho4 hg4)
                | (at_builtin; refine appR rfl _ _ 47 36 (.agg #[.int .i64 0, .string ⟨#[]⟩, .int .i64 0]) 32 info_trmP Tryz.underlying36 rfl (by omega) rfl w.heap.size _ _ _ (a ++ bb) 6 [] 0 O4.out rfl rfl ⟨⟨by show _ ≤ (6 : Int); omega, by show (6 : Int) ≤ _; omega⟩, by simp, ⟨by show _ ≤ (0 : Int); omega, by show (0 : Int) ≤ _; omega⟩⟩ lab hsz4 ?_; intro v5 w5 ho5 hg5; have O5 := Lib.hid ho5; have HG5 := Lib.hid (grP_own HG4.out hg5 (fun q e => (O4.out.lt q e).1)); have HP5 := Lib.hid (HP4.out.grown hg5 (fun q e => by have := (O4.out.lt q e).1; omega)); have HE5 := Lib.hid (HE4.out.grownR hg5 (fun q e => by have := (O4.out.lt q e).1; omega)); clear ho5 hg5))
              go_roundw
              case rel =>
                exact ⟨f1, a ++ bb ++ [opT true], r2, by omega, O5.out, HP5.out, HE5.out, HG5.out, one_two OA.out OB.out (by decide) (by decide), by rw [List.length_append, List.length_append]; simp; omega, HXX.out⟩
              case measure => rw [HLA.out, HP5.out.lenAt]; omega
        · rw [if_neg hc] at hx
          have SK := Lib.hid (i_skip_no g (opK true) T' wr hp1 hc (by decide))
          have HXX := Lib.hid hx
          clear hx hc ho hp1 hE1 hg ha
          simp only [show opW 6 = opK true from rfl, show (6 * 3 : Nat) = 18 from rfl] at c0
          go_wp2_with fail
          refine SK.out.mono ?_
          rintro e w2 ⟨rfl, rfl⟩
          go_wp2_with fail
          go_ret
          exact retI_ok HG.out HO.out HP.out HXX.out.symm
theorem i_chain_false (f : Nat) (OP : ∀ f', f' ≤ f → OpI 139 f' (opd false)) (T : TT) (w : World) (g : Nat) (hp : PSt w g T) (hE : Env w g) (hT : T.length ≤ 100000) (hne : prs (f + 1) (.chain false) T ≠ .out) :
    Calls Tryz.prog 112 #[.pointer (some ⟨g, 0, none⟩), .int .i64 5, .func (.func 139) #[.pointer (some ⟨g, 0, none⟩)] #[]] w (RetI w g (prs (f + 1) (.chain false) T)) := by
  have hX : prs (f + 1) (.chain false) T = (prs f (opd false) T).bind fun a r => prs f (.loop false a) r := rfl
  obtain ⟨X, hXX⟩ : ∃ X, X = prs (f + 1) (.chain false) T := ⟨_, rfl⟩
  rw [← hXX] at hX hne ⊢
  clear hXX
  have hgl := hp.lt
  have HPW := Lib.hid hp
  cases hq : prs f (opd false) T with
  | out => rw [hq] at hX; exact absurd hX hne
  | bad =>
    have C1 := Lib.hid (OP f (Nat.le_refl _) T w g hp hE hT (by rw [hq]; intro e; cases e))
    rw [hq] at C1 hX
    have HX := Lib.hid (show X = .bad from hX)
    clear hX hne hp hE OP
    go_enter Tryz.func112, Tryz.ntmps112
    go_wp2_with fail
    refine C1.out.mono ?_
    rintro e w1 ⟨hg, he⟩
    have he : e = Bad := he
    subst he
    have HG := Lib.hid hg
    clear hg
    unfold Bad
    go_wp2_with fail
    all_goals exact ⟨rfl, retI_bad HG.out HX.out⟩
  | ok a r =>
    have C1 := Lib.hid (OP f (Nat.le_refl _) T w g hp hE hT (by rw [hq]; intro e; cases e))
    obtain ⟨la, oa, pre, hpre⟩ := prs_ok f (opd false) T a r (glOk_opd _) hq
    rw [accL_opd] at la
    rw [hq] at C1 hX
    have HX := Lib.hid (show X = prs f (.loop false a) r from hX)
    have HNE := Lib.hid hne
    have OA := Lib.hid oa
    have HOP := Lib.hid OP
    have HE := Lib.hid hE
    clear hX hne hp hE OP hq oa hpre
    go_enter Tryz.func112, Tryz.ntmps112
    go_wp2_with fail
    refine C1.out.mono ?_
    rintro e w1 ⟨hg, v, rfl, ho, hp1⟩
    have HG := Lib.hid hg
    have HO := Lib.hid ho
    have HP := Lib.hid hp1
    have HE1 := Lib.hid (HE.out.grown hg)
    clear hg ho hp1 C1
    go_wp2_with fail
    go_loopw [7] (fun v wr => (∃ (f' : Nat) (a : List Trm) (T' : TT), f' ≤ f ∧ OwnR wr w.heap.size 47 v a ∧ PSt wr g T' ∧ Env wr g ∧ w.grownBy wr (some g) ∧ One1 a ∧ a.length + T'.length ≤ T.length ∧ prs f' (.loop false a) T' = X)) (fun _ wr => lenAt wr g)
    case atStart => exact ⟨f, a, r, Nat.le_refl _, HO.out, HP.out, HE1.out, HG.out, OA.out, by omega, HX.out.symm⟩
    case round =>
      clear HX HO HP HE1 HG OA la
      obtain ⟨f', a, T', hf, ho, hp1, hE1, hg, ha, hl, hx⟩ := hrel
      have HO := Lib.hid ho; have HP := Lib.hid hp1; have HE1 := Lib.hid hE1; have HG := Lib.hid hg; have OA := Lib.hid ha
      have c0 := (hE1.ops 5 (by omega)).1
      have hgr : g < wr.heap.size := hp1.lt
      cases f' with
      | zero => exact absurd hx (by intro e; exact HNE.out e.symm)
      | succ f1 =>
        simp only [prs] at hx
        by_cases hc : T'.headD [] = opK false
        · rw [if_pos hc] at hx
          cases T' with
          | nil => simp [opK, kOr, kAnd] at hc
          | cons y T2 =>
            have hy : y = kAnd := hc
            subst hy
            simp only [List.tail_cons] at hx
            simp only [List.length_cons] at hl
            have SK := Lib.hid (i_skip_yes g kAnd T2 wr hp1)
            have HLA : Hid (lenAt wr g = T2.length + 1) := Lib.hid hp1.lenAt
            have HXX := Lib.hid hx
            have hq3 : ∀ q, prs f1 (opd false) T2 = q → q ≠ .out := by
              rintro q rfl e
              rw [e] at hx
              exact HNE.out hx.symm
            have C2 := Lib.hid (fun W h1 h2 => HOP.out f1 (by omega) T2 W g h1 h2 (by omega) (hq3 _ rfl))
            obtain ⟨q, hq⟩ : ∃ q, q = prs f1 (opd false) T2 := ⟨_, rfl⟩
            have HQ := Lib.hid hq
            have hqn := hq3 q hq.symm
            rw [← hq] at C2 HXX
            clear hx hq3 hc ho hp1 hE1 hg ha hq
            simp only [show opW 5 = kAnd from rfl, show (5 * 3 : Nat) = 15 from rfl] at c0
            go_wp2_with fail
            refine SK.out.mono ?_
            rintro e w2 ⟨rfl, hp2, hg2⟩
            have HP2 := Lib.hid hp2
            have HE2 := Lib.hid (HE1.out.grown hg2)
            have HO2 := Lib.hid (HO.out.keptG hg2 hgl)
            have HG2 := Lib.hid (grP_trans HG.out hg2)
            have hsz2 : w.heap.size ≤ w2.heap.size := Nat.le_trans HG.out.size hg2.size
            clear hp2 hg2 SK c0
            cases q with
            | out => exact absurd rfl hqn
            | bad =>
              go_wp2_with fail
              refine (C2.out _ HP2.out HE2.out).mono ?_
              rintro e w3 ⟨hg3, he⟩
              have he : e = Bad := he
              subst he
              have HG3 := Lib.hid (grP_trans HG2.out hg3)
              clear hg3
              unfold Bad
              go_wp2_with fail
              all_goals exact ⟨rfl, retI_bad HG3.out HXX.out.symm⟩
            | ok bb r2 =>
              obtain ⟨lb, ob, _⟩ := prs_ok f1 (opd false) T2 bb r2 (glOk_opd _) HQ.out.symm
              rw [accL_opd] at lb
              have OB := Lib.hid ob
              clear ob hqn
              go_wp2_with fail
              refine (C2.out _ HP2.out HE2.out).mono ?_
              rintro e w3 ⟨hg3, u, rfl, ho3, hp3⟩
              have HG3 := Lib.hid (grP_trans HG2.out hg3)
              have HV3 := Lib.hid (HO2.out.keptG hg3 hgl)
              have HU3 := Lib.hid ho3
              have HP3 := Lib.hid hp3
              have HE3 := Lib.hid (HE2.out.grown hg3)
              have hsz3 : w.heap.size ≤ w3.heap.size := Nat.le_trans hsz2 hg3.size
              clear hg3 ho3 hp3 C2 HP2 HO2 HG2 HE2 HO HP HE1 HG
              have la1 : a.length ≤ 100000000 := by omega
              have lb1 : bb.length ≤ 100000000 := by omega
              have lab : (a ++ bb).length ≤ 1000000000 := by rw [List.length_append]; omega
              have NEB := Lib.hid (one_ne OB.out)
              go_wp2_with (first
                | (at_builtin; refine appRS rfl _ _ rfl w.heap.size _ _ a bb _ _ HV3.out HU3.out NEB.out rfl rfl la1 lb1 hsz3 ?_; intro v4 w4 ho4 hg4; have O4 := Lib.hid ho4; have HG4 := Lib.hid (grP_own HG3.out hg4 (fun q e => (HV3.out.lt q e).1)); have HP4 := Lib.hid (HP3.out.grown hg4 (fun q e => by have := (HV3.out.lt q e).1; omega)); have HE4 := Lib.hid (HE3.out.grownR hg4 (fun q e => by have := (HV3.out.lt q e).1; omega)); have hsz4 : w.heap.size ≤ w4.heap.size := Nat.le_trans hsz3 hg4.size; clear ho4 hg4)
                | (at_builtin; refine appR rfl _ _ 47 36 (.agg #[.int .i64 0, .string ⟨#[]⟩, .int .i64 0]) 32 info_trmP Tryz.underlying36 rfl (by omega) rfl w.heap.size _ _ _ (a ++ bb) 5 [] 0 O4.out rfl rfl ⟨⟨by show _ ≤ (5 : Int); omega, by show (5 : Int) ≤ _; omega⟩, by simp, ⟨by show _ ≤ (0 : Int); omega, by show (0 : Int) ≤ _; omega⟩⟩ lab hsz4 ?_; intro v5 w5 ho5 hg5; have O5 := Lib.hid ho5; have HG5 := Lib.hid (grP_own HG4.out hg5 (fun q e => (O4.out.lt q e).1)); have HP5 := Lib.hid (HP4.out.grown hg5 (fun q e => by have := (O4.out.lt q e).1; omega)); have HE5 := Lib.hid (HE4.out.grownR hg5 (fun q e => by have := (O4.out.lt q e).1; omega)); clear ho5 hg5))
              go_roundw
              case rel =>
                exact ⟨f1, a ++ bb ++ [opT false], r2, by omega, O5.out, HP5.out, HE5.out, HG5.out, one_two OA.out OB.out (by decide) (by decide), by rw [List.length_append, List.length_append]; simp; omega, HXX.out⟩
              case measure => rw [HLA.out, HP5.out.lenAt]; omega
        · rw [if_neg hc] at hx
          have SK := Lib.hid (i_skip_no g (opK false) T' wr hp1 hc (by decide))
          have HXX := Lib.hid hx
          clear hx hc ho hp1 hE1 hg ha
          simp only [show opW 5 = opK false from rfl, show (5 * 3 : Nat) = 15 from rfl] at c0
          go_wp2_with fail
          refine SK.out.mono ?_
          rintro e w2 ⟨rfl, rfl⟩
          go_wp2_with fail
          go_ret
          exact retI_ok HG.out HO.out HP.out HXX.out.symm
end Go.Proofs.YtggnhdeldmkdmaaGreatDoor
