/- The parser's recursion, of the model: numbers, chains. -/
import Derived.Test.YtggnhdeldmkdmaaGreatDoorPqI
namespace Go.Proofs.YtggnhdeldmkdmaaGreatDoor
open Go.RowKit Go.Shelf
set_option maxHeartbeats 4000000
set_option maxRecDepth 100000
set_option linter.unusedVariables false
set_option linter.unusedSimpArgs false
variable {N : Nat}
theorem s_wantNumber_yes (g : Nat) (x : List UInt8) (r : TT) (b : Bool) (w : World) (h : SSt N w g (x :: r) b) (hn : numB x = true) : Calls Tryz.prog 164 #[.pointer (some ⟨g, 0, none⟩)] w fun e w' => e = .returned (.int .i64 (vl 0 x : Nat)) ∧ SSt N w' g r b ∧ w.grownBy w' (some g) := by
  have PK := Lib.hid (s_peek g (x :: r) b w h)
  simp only [List.headD_cons] at PK
  have HS := Lib.hid h
  have hl := (kd_len (h.valid x (by simp))).2
  have SV : Hid (∀ W, Calls Tryz.prog 128 #[.string (tx x)] W fun e w' => e = .returned (.tuple #[.int .i64 (vl 0 x : Nat), .bool true]) ∧ Later W w') := Lib.hid (fun W => by
    refine (s_Value (tx x) W (by rw [tx_size]; omega)).mono ?_
    rintro e w' ⟨hb, ⟨m, hm, hd, rfl⟩ | ⟨hno, m, hm, rfl⟩⟩
    · refine ⟨?_, hb⟩
      have h2 := (dec_read (m + 1) m (by omega)).1
      rw [tx_data] at hd
      rw [← hd, h2]
    · exfalso
      obtain ⟨m', h1, h2⟩ := (numB_iff x).1 hn
      exact hno ⟨m', by omega, h2⟩)
  obtain ⟨m, hm⟩ : ∃ m : Int, m = (vl 0 x : Nat) := ⟨_, rfl⟩
  rw [← hm] at SV ⊢
  obtain ⟨s, hs⟩ : ∃ s, s = tx x := ⟨_, rfl⟩
  rw [← hs] at PK SV
  clear h hs hl hn hm
  go_enter Tryz.func164, Tryz.ntmps164
  go_wp2_with fail
  refine PK.out.mono ?_
  rintro e w1 ⟨rfl, hb⟩
  have H1 := Lib.hid hb
  clear hb
  go_wp2_with fail
  refine (SV.out _).mono ?_
  rintro e w2 ⟨rfl, hb⟩
  have H2 := Lib.hid (Later.trans H1.out hb)
  have HG := Lib.hid (grP_later (grP_refl w (some g)) H2.out)
  obtain ⟨p, off, n, cap, k, c0, c1, c2, f1, f2, hkn, hn, hpg, d1, hpl, hss⟩ := (HS.out.later H2.out).cons
  have HSS := Lib.hid hss
  have hw1 : IntKind.i64.wrap ((k : Int) + 1) = (k : Int) + 1 := IntWalk.i64_in _ (by omega)
  clear hb hss d1
  go_wp2_with fail
  go_ret
  exact ⟨rfl, HSS.out, grP_set HG.out _⟩
theorem s_wantNumber_no (g : Nat) (T : TT) (b : Bool) (w : World) (h : SSt N w g T b) (hn : nbr T = .bad) : Calls Tryz.prog 164 #[.pointer (some ⟨g, 0, none⟩)] w fun e w' => e = .returned (.int .i64 0) ∧ SSt N w' g T true ∧ w.grownBy w' (some g) := by
  have PK := Lib.hid (s_peek g T b w h)
  have HS := Lib.hid h
  have hl : (T.headD []).length ≤ 12 := by
    cases T with
    | nil => simp
    | cons x r => exact (kd_len (h.valid x (by simp))).2
  have hnn : ∀ m : Nat, Lib.decDigits m ≠ T.headD [] := by
    intro m e
    cases T with
    | nil =>
      have := (dec_read (m + 1) m (by omega)).2.2
      exact this e
    | cons x r =>
      simp only [List.headD_cons] at e
      unfold nbr at hn
      have hx : numB x = false := by
        cases hx : numB x with
        | false => rfl
        | true => simp [hx] at hn
      obtain ⟨_, h2, h3⟩ := dec_read (m + 1) m (by omega)
      rcases kd_cases (h.valid x (by simp)) with h1 | h1 | h1
      · obtain ⟨c, t, rfl, hc⟩ := wrd_head h1
        rw [e] at h2
        have := h2 c (by simp)
        simp [letB] at hc
        omega
      · rw [hx] at h1; cases h1
      · obtain ⟨c, rfl, h5, _⟩ := sgn_head h1
        rw [e] at h2
        have := digs_digB h2 c (by simp)
        rw [dig_inn c this] at h5
        cases h5
  have SV : Hid (∀ W, Calls Tryz.prog 128 #[.string (tx (T.headD []))] W fun e w' => (∃ m : Int, e = .returned (.tuple #[.int .i64 m, .bool false])) ∧ Later W w') := Lib.hid (fun W => by
    refine (s_Value (tx (T.headD [])) W (by rw [tx_size]; omega)).mono ?_
    rintro e w' ⟨hb, ⟨m, hm, hd, rfl⟩ | ⟨hno, m, hm, rfl⟩⟩
    · exact absurd hd (hnn m)
    · exact ⟨⟨_, rfl⟩, hb⟩)
  obtain ⟨s, hs⟩ : ∃ s, s = tx (T.headD []) := ⟨_, rfl⟩
  rw [← hs] at PK SV
  clear h hs hl hn hnn
  go_enter Tryz.func164, Tryz.ntmps164
  go_wp2_with fail
  refine PK.out.mono ?_
  rintro e w1 ⟨rfl, hb⟩
  have H1 := Lib.hid hb
  clear hb
  go_wp2_with fail
  refine (SV.out _).mono ?_
  rintro e w2 ⟨⟨m, rfl⟩, hb⟩
  have H2 := Lib.hid (Later.trans H1.out hb)
  have HG := Lib.hid (grP_later (grP_refl w (some g)) H2.out)
  have HSS := Lib.hid (HS.out.later H2.out).bad
  obtain ⟨c2, f2⟩ := (HS.out.later H2.out).flag
  clear hb
  go_wp2_with fail
  go_ret
  exact ⟨rfl, HSS.out, grP_set HG.out _⟩
/-- the steps of a parser that is bad already: whatever is before it, it stays so -/
theorem s_want_bad (g : Nat) (s : List UInt8) (T : TT) (w : World) (h : SSt N w g T true) (hs0 : s ≠ []) : Calls Tryz.prog 103 #[.pointer (some ⟨g, 0, none⟩), .string (tx s)] w fun e w' => e = .returned (.tuple #[]) ∧ (∃ T', T'.length ≤ T.length ∧ SSt N w' g T' true) ∧ w.grownBy w' (some g) := by
  by_cases hs : T.headD [] = s
  · cases T with
    | nil => exact absurd hs.symm hs0
    | cons x r =>
      simp only [List.headD_cons] at hs
      subst hs
      refine (s_want_yes g x r true w h).mono ?_
      rintro e w' ⟨he, h1, h2⟩
      exact ⟨he, ⟨r, by simp, h1⟩, h2⟩
  · refine (s_want_no g s T true w h hs).mono ?_
    rintro e w' ⟨he, h1, h2⟩
    exact ⟨he, ⟨T, Nat.le_refl _, h1⟩, h2⟩
theorem s_wantNumber_bad (g : Nat) (T : TT) (w : World) (h : SSt N w g T true) : Calls Tryz.prog 164 #[.pointer (some ⟨g, 0, none⟩)] w fun e w' => (∃ m : Int, e = .returned (.int .i64 m) ∧ 0 ≤ m ∧ m ≤ 9999) ∧ (∃ T', T'.length ≤ T.length ∧ SSt N w' g T' true) ∧ w.grownBy w' (some g) := by
  cases hn : nbr T with
  | out => exact absurd hn (nbr_in _)
  | bad =>
    refine (s_wantNumber_no g T true w h hn).mono ?_
    rintro e w' ⟨he, h1, h2⟩
    exact ⟨⟨0, he, by omega, by omega⟩, ⟨T, Nat.le_refl _, h1⟩, h2⟩
  | ok m r =>
    obtain ⟨x, rfl, hx, rfl⟩ := nbr_ok hn
    have := num_le hx
    refine (s_wantNumber_yes g x r true w h hx).mono ?_
    rintro e w' ⟨he, h1, h2⟩
    exact ⟨⟨_, he, by omega, by omega⟩, ⟨r, by simp, h1⟩, h2⟩
/-- what a part of the model's parser leaves -/
def RetS (N : Nat) (w : World) (g : Nat) (T : TT) (x : PR (List Trm)) (e : Ending) (w' : World) : Prop :=
  w.grownBy w' (some g) ∧ (match x with
    | .out => False
    | .bad => ∃ v L T', e = .returned v ∧ OwnR w' w.heap.size 47 v L ∧ L ≠ [] ∧ L.length + T'.length ≤ T.length + 1 ∧ SSt N w' g T' true
    | .ok L r => ∃ v, e = .returned v ∧ OwnR w' w.heap.size 47 v L ∧ SSt N w' g r false)
theorem retS_bad {w w' : World} {g : Nat} {T : TT} {x : PR (List Trm)} {v : Value} {L : List Trm} {T' : TT} (hg : w.grownBy w' (some g)) (ho : OwnR w' w.heap.size 47 v L) (hL : L ≠ []) (hl : L.length + T'.length ≤ T.length + 1) (hp : SSt N w' g T' true) (hx : x = .bad) : RetS N w g T x (.returned v) w' := by subst hx; exact ⟨hg, v, L, T', rfl, ho, hL, hl, hp⟩
theorem retS_ok {w w' : World} {g : Nat} {T : TT} {x : PR (List Trm)} {v : Value} {L : List Trm} {r : TT} (hg : w.grownBy w' (some g)) (ho : OwnR w' w.heap.size 47 v L) (hp : SSt N w' g r false) (hx : x = .ok L r) : RetS N w g T x (.returned v) w' := by subst hx; exact ⟨hg, v, rfl, ho, hp⟩
/-- what an operand of a chain does -/
def OpS (N : Nat) (F : FuncId) (f : Nat) (gl : Gl) : Prop := ∀ (T : TT) (w : World) (g : Nat), SSt N w g T false → T.length ≤ 100000 → prs f gl T ≠ .out → Calls Tryz.prog F #[.pointer (some ⟨g, 0, none⟩)] w (RetS N w g T (prs f gl T))
/-- how many tokens are before the model's parser -/
def lenS (w : World) (g : Nat) : Nat := match w.cell? ⟨g, 0, none⟩, w.cell? ⟨g, 1, none⟩ with | some (.slice _ n _), some (.int .i64 k) => n - k.toNat | _, _ => 0
theorem SSt.lenS {w : World} {g : Nat} {T : TT} {b : Bool} (h : SSt N w g T b) : lenS w g = T.length := by
  obtain ⟨a, n, cap, L, k, c0, c1, _, _, _, h4, _, _, _, h8, _⟩ := h
  unfold Go.Proofs.YtggnhdeldmkdmaaGreatDoor.lenS
  rw [c0, c1, ← h8, List.length_map, List.length_drop, h4.1]; rfl
theorem s_chain_false (f : Nat) (OP : ∀ f', f' ≤ f → OpS N 140 f' (opd false)) : OpS N 114 (f + 1) (.chain false) := by
  intro T w g hp hT hne
  have hX : prs (f + 1) (.chain false) T = (prs f (opd false) T).bind fun a r => prs f (.loop false a) r := rfl
  obtain ⟨X, hXX⟩ : ∃ X, X = prs (f + 1) (.chain false) T := ⟨_, rfl⟩
  rw [← hXX] at hX hne ⊢
  clear hXX
  have hgl := hp.lt
  cases hq : prs f (opd false) T with
  | out => rw [hq] at hX; exact absurd hX hne
  | bad =>
    have C1 := Lib.hid (OP f (Nat.le_refl _) T w g hp hT (by rw [hq]; intro e; cases e))
    rw [hq] at C1 hX
    have HX := Lib.hid (show X = .bad from hX)
    clear hX hne hp OP
    go_enter Tryz.func114, Tryz.ntmps114
    go_wp2_with fail
    refine C1.out.mono ?_
    rintro e w1 ⟨hg, v, L1, T1, rfl, ho, hL1, hl1, hp1⟩
    have HG := Lib.hid hg; have HO := Lib.hid ho; have HP := Lib.hid hp1; have HL1 := Lib.hid hL1
    obtain ⟨c2, f2⟩ := hp1.flag
    clear hg ho hp1 hL1
    go_wp2_with fail
    go_loopw [3] (fun u wr => u = v ∧ wr = w1) (fun _ _ => 0)
    case atStart => exact ⟨rfl, rfl⟩
    case round =>
      obtain ⟨rfl, rfl⟩ := hrel
      go_wp2_with fail
      go_ret
      exact retS_bad HG.out HO.out HL1.out hl1 HP.out HX.out
  | ok a r =>
    have C1 := Lib.hid (OP f (Nat.le_refl _) T w g hp hT (by rw [hq]; intro e; cases e))
    obtain ⟨la, oa, pre, hpre⟩ := prs_ok f (opd false) T a r (glOk_opd _) hq
    rw [accL_opd] at la
    rw [hq] at C1 hX
    have HX := Lib.hid (show X = prs f (.loop false a) r from hX)
    have HNE := Lib.hid hne
    have OA := Lib.hid oa
    have HOP := Lib.hid OP
    clear hX hne hp OP hq oa hpre
    go_enter Tryz.func114, Tryz.ntmps114
    go_wp2_with fail
    refine C1.out.mono ?_
    rintro e w1 ⟨hg, v, rfl, ho, hp1⟩
    have HG := Lib.hid hg
    have HO := Lib.hid ho
    have HP := Lib.hid hp1
    clear hg ho hp1 C1
    go_wp2_with fail
    go_loopw [3] (fun v wr => (∃ (f' : Nat) (a : List Trm) (T' : TT), f' ≤ f ∧ OwnR wr w.heap.size 47 v a ∧ SSt N wr g T' false ∧ w.grownBy wr (some g) ∧ One1 a ∧ a.length + T'.length ≤ T.length ∧ prs f' (.loop false a) T' = X) ∨ (∃ (L : List Trm) (T' : TT), OwnR wr w.heap.size 47 v L ∧ SSt N wr g T' true ∧ w.grownBy wr (some g) ∧ L ≠ [] ∧ L.length + T'.length ≤ T.length + 1 ∧ X = .bad)) (fun _ wr => lenS wr g)
    case atStart => exact .inl ⟨f, a, r, Nat.le_refl _, HO.out, HP.out, HG.out, OA.out, by omega, HX.out.symm⟩
    case round =>
      clear HX HO HP HG OA la
      rcases hrel with ⟨f', a, T', hf, ho, hp1, hg, ha, hl, hx⟩ | ⟨L, T', ho, hp1, hg, hL, hl, hx⟩
      · have HO := Lib.hid ho; have HP := Lib.hid hp1; have HG := Lib.hid hg; have OA := Lib.hid ha
        obtain ⟨c2, f2⟩ := hp1.flag
        have hgr : g < wr.heap.size := hp1.lt
        have PK := Lib.hid (s_peek g T' false wr hp1)
        cases f' with
        | zero => exact absurd hx (by intro e; exact HNE.out e.symm)
        | succ f1 =>
          simp only [prs] at hx
          by_cases hc : T'.headD [] = opK false
          · rw [if_pos hc] at hx
            cases T' with
            | nil => simp [opK, kOr, kAnd] at hc
            | cons y T2 =>
              have hy : y = kAnd := hc
              subst hy
              simp only [List.tail_cons] at hx
              simp only [List.length_cons] at hl
              simp only [List.headD_cons] at PK
              have HLA : Hid (lenS wr g = T2.length + 1) := Lib.hid hp1.lenS
              have HXX := Lib.hid hx
              have hq3 : ∀ q, prs f1 (opd false) T2 = q → q ≠ .out := by
                rintro q rfl e
                rw [e] at hx
                exact HNE.out hx.symm
              have C2 := Lib.hid (fun W h1 => HOP.out f1 (by omega) T2 W g h1 (by omega) (hq3 _ rfl))
              obtain ⟨q, hq⟩ : ∃ q, q = prs f1 (opd false) T2 := ⟨_, rfl⟩
              have HQ := Lib.hid hq
              have hqn := hq3 q hq.symm
              rw [← hq] at C2 HXX
              clear hx hq3 hc ho hp1 hg ha hq
              go_wp2_with fail
              refine PK.out.mono ?_
              rintro e w2 ⟨rfl, hb2⟩
              have e1 : ((tx kAnd).toList == [97, 110, 100]) = true := by rw [Lib.toList_data]; rfl
              obtain ⟨p, off, n, cap, k, c0, c1, c2', f1', f2', hkn, hn, hpg, d1, hpl, hss⟩ := (HP.out.later hb2).cons
              have HSS := Lib.hid hss
              have hw1 : IntKind.i64.wrap ((k : Int) + 1) = (k : Int) + 1 := IntWalk.i64_in _ (by omega)
              have HO2 := Lib.hid ((HO.out.later hb2).keptG (grP_set (j := 1) (grP_refl _ _) (.int .i64 ((k : Int) + 1))) hgl)
              have HG2 := Lib.hid (grP_set (j := 1) (grP_later HG.out hb2) (.int .i64 ((k : Int) + 1)))
              have hsz2 : w.heap.size ≤ (w2.setCell ⟨g, 1, none⟩ (.int .i64 ((k : Int) + 1))).heap.size := HG2.out.size
              clear hb2 hss d1 PK
              go_wp2_with fail
              cases q with
              | out => exact absurd rfl hqn
              | bad =>
                refine (C2.out _ HSS.out).mono ?_
                rintro e w3 ⟨hg3, u, L3, T3, rfl, ho3, hL3, hl3, hp3⟩
                have HG3 := Lib.hid (grP_trans HG2.out hg3)
                have HV3 := Lib.hid (HO2.out.keptG hg3 hgl)
                have HU3 := Lib.hid ho3
                have HP3 := Lib.hid hp3
                have NEB := Lib.hid hL3
                have hsz3 : w.heap.size ≤ w3.heap.size := HG3.out.size
                clear hg3 ho3 hp3 hL3
                have la1 : a.length ≤ 100000000 := by omega
                have lb1 : L3.length ≤ 100000000 := by omega
                have lab : (a ++ L3).length ≤ 1000000000 := by rw [List.length_append]; omega
                go_wp2_with (first
                  | (at_builtin; refine appRS rfl _ _ rfl w.heap.size _ _ a L3 _ _ HV3.out HU3.out NEB.out rfl rfl la1 lb1 hsz3 ?_; intro v4 w4 ho4 hg4; have O4 := Lib.hid ho4; have HG4 := Lib.hid (grP_own HG3.out hg4 (fun q e => (HV3.out.lt q e).1)); have HP4 := Lib.hid (HP3.out.grown hg4 (fun q e => by have := (HV3.out.lt q e).1; omega)); have hsz4 : w.heap.size ≤ w4.heap.size := Nat.le_trans hsz3 hg4.size; clear ho4 hg4)
                  | (at_builtin; refine appR rfl _ _ 47 36 (.agg #[.int .i64 0, .string ⟨#[]⟩, .int .i64 0]) 32 info_trmP Tryz.underlying36 rfl (by omega) rfl w.heap.size _ _ _ (a ++ L3) 5 [] 0 O4.out rfl rfl ⟨⟨by show _ ≤ (5 : Int); omega, by show (5 : Int) ≤ _; omega⟩, by simp, ⟨by show _ ≤ (0 : Int); omega, by show (0 : Int) ≤ _; omega⟩⟩ lab hsz4 ?_; intro v5 w5 ho5 hg5; have O5 := Lib.hid ho5; have HG5 := Lib.hid (grP_own HG4.out hg5 (fun q e => (O4.out.lt q e).1)); have HP5 := Lib.hid (HP4.out.grown hg5 (fun q e => by have := (O4.out.lt q e).1; omega)); clear ho5 hg5))
                go_roundw
                case rel =>
                  exact .inr ⟨a ++ L3 ++ [opT false], T3, O5.out, HP5.out, HG5.out, by simp, by rw [List.length_append, List.length_append]; simp; omega, HXX.out.symm⟩
                case measure =>
                  have : 1 ≤ L3.length := List.length_pos_iff.2 NEB.out
                  rw [HLA.out, HP5.out.lenS]; omega
              | ok bb r2 =>
                obtain ⟨lb, ob, _⟩ := prs_ok f1 (opd false) T2 bb r2 (glOk_opd _) HQ.out.symm
                rw [accL_opd] at lb
                have OB := Lib.hid ob
                clear ob hqn
                refine (C2.out _ HSS.out).mono ?_
                rintro e w3 ⟨hg3, u, rfl, ho3, hp3⟩
                have HG3 := Lib.hid (grP_trans HG2.out hg3)
                have HV3 := Lib.hid (HO2.out.keptG hg3 hgl)
                have HU3 := Lib.hid ho3
                have HP3 := Lib.hid hp3
                have hsz3 : w.heap.size ≤ w3.heap.size := HG3.out.size
                clear hg3 ho3 hp3
                have la1 : a.length ≤ 100000000 := by omega
                have lb1 : bb.length ≤ 100000000 := by omega
                have lab : (a ++ bb).length ≤ 1000000000 := by rw [List.length_append]; omega
                have NEB := Lib.hid (one_ne OB.out)
                go_wp2_with (first
                  | (at_builtin; refine appRS rfl _ _ rfl w.heap.size _ _ a bb _ _ HV3.out HU3.out NEB.out rfl rfl la1 lb1 hsz3 ?_; intro v4 w4 ho4 hg4; have O4 := Lib.hid ho4; have HG4 := Lib.hid (grP_own HG3.out hg4 (fun q e => (HV3.out.lt q e).1)); have HP4 := Lib.hid (HP3.out.grown hg4 (fun q e => by have := (HV3.out.lt q e).1; omega)); have hsz4 : w.heap.size ≤ w4.heap.size := Nat.le_trans hsz3 hg4.size; clear ho4 hg4)
                  | (at_builtin; refine appR rfl _ _ 47 36 (.agg #[.int .i64 0, .string ⟨#[]⟩, .int .i64 0]) 32 info_trmP Tryz.underlying36 rfl (by omega) rfl w.heap.size _ _ _ (a ++ bb) 5 [] 0 O4.out rfl rfl ⟨⟨by show _ ≤ (5 : Int); omega, by show (5 : Int) ≤ _; omega⟩, by simp, ⟨by show _ ≤ (0 : Int); omega, by show (0 : Int) ≤ _; omega⟩⟩ lab hsz4 ?_; intro v5 w5 ho5 hg5; have O5 := Lib.hid ho5; have HG5 := Lib.hid (grP_own HG4.out hg5 (fun q e => (O4.out.lt q e).1)); have HP5 := Lib.hid (HP4.out.grown hg5 (fun q e => by have := (O4.out.lt q e).1; omega)); clear ho5 hg5))
                go_roundw
                case rel =>
                  exact .inl ⟨f1, a ++ bb ++ [opT false], r2, by omega, O5.out, HP5.out, HG5.out, one_two OA.out OB.out (by decide) (by decide), by rw [List.length_append, List.length_append]; simp; omega, HXX.out⟩
                case measure => rw [HLA.out, HP5.out.lenS]; omega
          · rw [if_neg hc] at hx
            have e1 := eq_tx (T'.headD []) (opK false)
            rw [decide_eq_false hc] at e1
            have HXX := Lib.hid hx
            clear hx hc ho hp1 hg ha
            obtain ⟨z, hz⟩ : ∃ s, s = tx (T'.headD []) := ⟨_, rfl⟩
            rw [← hz] at PK e1
            have e1 : (z.toList == [97, 110, 100]) = false := by
              have h9 : (tx (opK false)).toList = [97, 110, 100] := by rw [Lib.toList_data]; rfl
              rw [h9] at e1; exact e1
            clear hz
            go_wp2_with fail
            refine PK.out.mono ?_
            rintro e w2 ⟨rfl, hb2⟩
            have HO2 := Lib.hid (HO.out.later hb2); have HP2 := Lib.hid (HP.out.later hb2); have HG2 := Lib.hid (grP_later HG.out hb2)
            clear hb2
            go_wp2_with fail
            go_ret
            exact retS_ok HG2.out HO2.out HP2.out HXX.out.symm
      · have HO := Lib.hid ho; have HP := Lib.hid hp1; have HG := Lib.hid hg; have HL := Lib.hid hL; have HXX := Lib.hid hx
        obtain ⟨c2, f2⟩ := hp1.flag
        have hgr : g < wr.heap.size := hp1.lt
        clear ho hp1 hg hL hx
        go_wp2_with fail
        go_ret
        exact retS_bad HG.out HO.out HL.out hl HP.out HXX.out
theorem s_chain_true (f : Nat) (OP : ∀ f', f' ≤ f → OpS N 114 f' (opd true)) : OpS N 63 (f + 1) (.chain true) := by
  intro T w g hp hT hne
  have hX : prs (f + 1) (.chain true) T = (prs f (opd true) T).bind fun a r => prs f (.loop true a) r := rfl
  obtain ⟨X, hXX⟩ : ∃ X, X = prs (f + 1) (.chain true) T := ⟨_, rfl⟩
  rw [← hXX] at hX hne ⊢
  clear hXX
  have hgl := hp.lt
  cases hq : prs f (opd true) T with
  | out => rw [hq] at hX; exact absurd hX hne
  | bad =>
    have C1 := Lib.hid (OP f (Nat.le_refl _) T w g hp hT (by rw [hq]; intro e; cases e))
    rw [hq] at C1 hX
    have HX := Lib.hid (show X = .bad from hX)
    clear hX hne hp OP
    go_enter Tryz.func63, Tryz.ntmps63
    go_wp2_with fail
    refine C1.out.mono ?_
    rintro e w1 ⟨hg, v, L1, T1, rfl, ho, hL1, hl1, hp1⟩
    have HG := Lib.hid hg; have HO := Lib.hid ho; have HP := Lib.hid hp1; have HL1 := Lib.hid hL1
    obtain ⟨c2, f2⟩ := hp1.flag
    clear hg ho hp1 hL1
    go_wp2_with fail
    go_loopw [3] (fun u wr => u = v ∧ wr = w1) (fun _ _ => 0)
    case atStart => exact ⟨rfl, rfl⟩
    case round =>
      obtain ⟨rfl, rfl⟩ := hrel
      go_wp2_with fail
      go_ret
      exact retS_bad HG.out HO.out HL1.out hl1 HP.out HX.out
  | ok a r =>
    have C1 := Lib.hid (OP f (Nat.le_refl _) T w g hp hT (by rw [hq]; intro e; cases e))
    obtain ⟨la, oa, pre, hpre⟩ := prs_ok f (opd true) T a r (glOk_opd _) hq
    rw [accL_opd] at la
    rw [hq] at C1 hX
    have HX := Lib.hid (show X = prs f (.loop true a) r from hX)
    have HNE := Lib.hid hne
    have OA := Lib.hid oa
    have HOP := Lib.hid OP
    clear hX hne hp OP hq oa hpre
    go_enter Tryz.func63, Tryz.ntmps63
    go_wp2_with fail
    refine C1.out.mono ?_
    rintro e w1 ⟨hg, v, rfl, ho, hp1⟩
    have HG := Lib.hid hg
    have HO := Lib.hid ho
    have HP := Lib.hid hp1
    clear hg ho hp1 C1
    go_wp2_with fail
    go_loopw [3] (fun v wr => (∃ (f' : Nat) (a : List Trm) (T' : TT), f' ≤ f ∧ OwnR wr w.heap.size 47 v a ∧ SSt N wr g T' false ∧ w.grownBy wr (some g) ∧ One1 a ∧ a.length + T'.length ≤ T.length ∧ prs f' (.loop true a) T' = X) ∨ (∃ (L : List Trm) (T' : TT), OwnR wr w.heap.size 47 v L ∧ SSt N wr g T' true ∧ w.grownBy wr (some g) ∧ L ≠ [] ∧ L.length + T'.length ≤ T.length + 1 ∧ X = .bad)) (fun _ wr => lenS wr g)
    case atStart => exact .inl ⟨f, a, r, Nat.le_refl _, HO.out, HP.out, HG.out, OA.out, by omega, HX.out.symm⟩
    case round =>
      clear HX HO HP HG OA la
      rcases hrel with ⟨f', a, T', hf, ho, hp1, hg, ha, hl, hx⟩ | ⟨L, T', ho, hp1, hg, hL, hl, hx⟩
      · have HO := Lib.hid ho; have HP := Lib.hid hp1; have HG := Lib.hid hg; have OA := Lib.hid ha
        obtain ⟨c2, f2⟩ := hp1.flag
        have hgr : g < wr.heap.size := hp1.lt
        have PK := Lib.hid (s_peek g T' false wr hp1)
        cases f' with
        | zero => exact absurd hx (by intro e; exact HNE.out e.symm)
        | succ f1 =>
          simp only [prs] at hx
          by_cases hc : T'.headD [] = opK true
          · rw [if_pos hc] at hx
            cases T' with
            | nil => simp [opK, kOr, kAnd] at hc
            | cons y T2 =>
              have hy : y = kOr := hc
              subst hy
              simp only [List.tail_cons] at hx
              simp only [List.length_cons] at hl
              simp only [List.headD_cons] at PK
              have HLA : Hid (lenS wr g = T2.length + 1) := Lib.hid hp1.lenS
              have HXX := Lib.hid hx
              have hq3 : ∀ q, prs f1 (opd true) T2 = q → q ≠ .out := by
                rintro q rfl e
                rw [e] at hx
                exact HNE.out hx.symm
              have C2 := Lib.hid (fun W h1 => HOP.out f1 (by omega) T2 W g h1 (by omega) (hq3 _ rfl))
              obtain ⟨q, hq⟩ : ∃ q, q = prs f1 (opd true) T2 := ⟨_, rfl⟩
              have HQ := Lib.hid hq
              have hqn := hq3 q hq.symm
              rw [← hq] at C2 HXX
              clear hx hq3 hc ho hp1 hg ha hq
              go_wp2_with fail
              refine PK.out.mono ?_
              rintro e w2 ⟨rfl, hb2⟩
              have e1 : ((tx kOr).toList == [111, 114]) = true := by rw [Lib.toList_data]; rfl
              obtain ⟨p, off, n, cap, k, c0, c1, c2', f1', f2', hkn, hn, hpg, d1, hpl, hss⟩ := (HP.out.later hb2).cons
              have HSS := Lib.hid hss
              have hw1 : IntKind.i64.wrap ((k : Int) + 1) = (k : Int) + 1 := IntWalk.i64_in _ (by omega)
              have HO2 := Lib.hid ((HO.out.later hb2).keptG (grP_set (j := 1) (grP_refl _ _) (.int .i64 ((k : Int) + 1))) hgl)
              have HG2 := Lib.hid (grP_set (j := 1) (grP_later HG.out hb2) (.int .i64 ((k : Int) + 1)))
              have hsz2 : w.heap.size ≤ (w2.setCell ⟨g, 1, none⟩ (.int .i64 ((k : Int) + 1))).heap.size := HG2.out.size
              clear hb2 hss d1 PK
              go_wp2_with fail
              cases q with
              | out => exact absurd rfl hqn
              | bad =>
                refine (C2.out _ HSS.out).mono ?_
                rintro e w3 ⟨hg3, u, L3, T3, rfl, ho3, hL3, hl3, hp3⟩
                have HG3 := Lib.hid (grP_trans HG2.out hg3)
                have HV3 := Lib.hid (HO2.out.keptG hg3 hgl)
                have HU3 := Lib.hid ho3
                have HP3 := Lib.hid hp3
                have NEB := Lib.hid hL3
                have hsz3 : w.heap.size ≤ w3.heap.size := HG3.out.size
                clear hg3 ho3 hp3 hL3
                have la1 : a.length ≤ 100000000 := by omega
                have lb1 : L3.length ≤ 100000000 := by omega
                have lab : (a ++ L3).length ≤ 1000000000 := by rw [List.length_append]; omega
                go_wp2_with (first
                  | (at_builtin; refine appRS rfl _ _ rfl w.heap.size _ _ a L3 _ _ HV3.out HU3.out NEB.out rfl rfl la1 lb1 hsz3 ?_; intro v4 w4 ho4 hg4; have O4 := Lib.hid ho4; have HG4 := Lib.hid (grP_own HG3.out hg4 (fun q e => (HV3.out.lt q e).1)); have HP4 := Lib.hid (HP3.out.grown hg4 (fun q e => by have := (HV3.out.lt q e).1; omega)); have hsz4 : w.heap.size ≤ w4.heap.size := Nat.le_trans hsz3 hg4.size; clear ho4 hg4)
                  | (at_builtin; refine appR rfl _ _ 47 36 (.agg #[.int .i64 0, .string ⟨#[]⟩, .int .i64 0]) 32 info_trmP Tryz.underlying36 rfl (by omega) rfl w.heap.size _ _ _ (a ++ L3) 6 [] 0 O4.out rfl rfl ⟨⟨by show _ ≤ (6 : Int); omega, by show (6 : Int) ≤ _; omega⟩, by simp, ⟨by show _ ≤ (0 : Int); omega, by show (0 : Int) ≤ _; omega⟩⟩ lab hsz4 ?_; intro v5 w5 ho5 hg5; have O5 := Lib.hid ho5; have HG5 := Lib.hid (grP_own HG4.out hg5 (fun q e => (O4.out.lt q e).1)); have HP5 := Lib.hid (HP4.out.grown hg5 (fun q e => by have := (O4.out.lt q e).1; omega)); clear ho5 hg5))
                go_roundw
                case rel =>
                  exact .inr ⟨a ++ L3 ++ [opT true], T3, O5.out, HP5.out, HG5.out, by simp, by rw [List.length_append, List.length_append]; simp; omega, HXX.out.symm⟩
                case measure =>
                  have : 1 ≤ L3.length := List.length_pos_iff.2 NEB.out
                  rw [HLA.out, HP5.out.lenS]; omega
              | ok bb r2 =>
                obtain ⟨lb, ob, _⟩ := prs_ok f1 (opd true) T2 bb r2 (glOk_opd _) HQ.out.symm
                rw [accL_opd] at lb
                have OB := Lib.hid ob
                clear ob hqn
                refine (C2.out _ HSS.out).mono ?_
                rintro e w3 ⟨hg3, u, rfl, ho3, hp3⟩
                have HG3 := Lib.hid (grP_trans HG2.out hg3)
                have HV3 := Lib.hid (HO2.out.keptG hg3 hgl)
                have HU3 := Lib.hid ho3
                have HP3 := Lib.hid hp3
                have hsz3 : w.heap.size ≤ w3.heap.size := HG3.out.size
                clear hg3 ho3 hp3
                have la1 : a.length ≤ 100000000 := by omega
                have lb1 : bb.length ≤ 100000000 := by omega
                have lab : (a ++ bb).length ≤ 1000000000 := by rw [List.length_append]; omega
                have NEB := Lib.hid (one_ne OB.out)
                go_wp2_with (first
                  | (at_builtin; refine appRS rfl _ _ rfl w.heap.size _ _ a bb _ _ HV3.out HU3.out NEB.out rfl rfl la1 lb1 hsz3 ?_; intro v4 w4 ho4 hg4; have O4 := Lib.hid ho4; have HG4 := Lib.hid (grP_own HG3.out hg4 (fun q e => (HV3.out.lt q e).1)); have HP4 := Lib.hid (HP3.out.grown hg4 (fun q e => by have := (HV3.out.lt q e).1; omega)); have hsz4 : w.heap.size ≤ w4.heap.size := Nat.le_trans hsz3 hg4.size; clear ho4 hg4)
                  | (at_builtin; refine appR rfl _ _ 47 36 (.agg #[.int .i64 0, .string ⟨#[]⟩, .int .i64 0]) 32 info_trmP Tryz.underlying36 rfl (by omega) rfl w.heap.size _ _ _ (a ++ bb) 6 [] 0 O4.out rfl rfl ⟨⟨by show _ ≤ (6 : Int); omega, by show (6 : Int) ≤ _; omega⟩, by simp, ⟨by show _ ≤ (0 : Int); omega, by show (0 : Int) ≤ _; omega⟩⟩ lab hsz4 ?_; intro v5 w5 ho5 hg5; have O5 := Lib.hid ho5; have HG5 := Lib.hid (grP_own HG4.out hg5 (fun q e => (O4.out.lt q e).1)); have HP5 := Lib.hid (HP4.out.grown hg5 (fun q e => by have := (O4.out.lt q e).1; omega)); clear ho5 hg5))
                go_roundw
                case rel =>
                  exact .inl ⟨f1, a ++ bb ++ [opT true], r2, by omega, O5.out, HP5.out, HG5.out, one_two OA.out OB.out (by decide) (by decide), by rw [List.length_append, List.length_append]; simp; omega, HXX.out⟩
                case measure => rw [HLA.out, HP5.out.lenS]; omega
          · rw [if_neg hc] at hx
            have e1 := eq_tx (T'.headD []) (opK true)
            rw [decide_eq_false hc] at e1
            have HXX := Lib.hid hx
            clear hx hc ho hp1 hg ha
            obtain ⟨z, hz⟩ : ∃ s, s = tx (T'.headD []) := ⟨_, rfl⟩
            rw [← hz] at PK e1
            have e1 : (z.toList == [111, 114]) = false := by
              have h9 : (tx (opK true)).toList = [111, 114] := by rw [Lib.toList_data]; rfl
              rw [h9] at e1; exact e1
            clear hz
            go_wp2_with fail
            refine PK.out.mono ?_
            rintro e w2 ⟨rfl, hb2⟩
            have HO2 := Lib.hid (HO.out.later hb2); have HP2 := Lib.hid (HP.out.later hb2); have HG2 := Lib.hid (grP_later HG.out hb2)
            clear hb2
            go_wp2_with fail
            go_ret
            exact retS_ok HG2.out HO2.out HP2.out HXX.out.symm
      · have HO := Lib.hid ho; have HP := Lib.hid hp1; have HG := Lib.hid hg; have HL := Lib.hid hL; have HXX := Lib.hid hx
        obtain ⟨c2, f2⟩ := hp1.flag
        have hgr : g < wr.heap.size := hp1.lt
        clear ho hp1 hg hL hx
        go_wp2_with fail
        go_ret
        exact retS_bad HG.out HO.out HL.out hl HP.out HXX.out
end Go.Proofs.YtggnhdeldmkdmaaGreatDoor
