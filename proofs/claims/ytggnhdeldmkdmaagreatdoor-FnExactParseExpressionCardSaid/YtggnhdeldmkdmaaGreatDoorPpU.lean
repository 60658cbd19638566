/- The parser's recursion, of the program: blocks, and all of it. -/
import Derived.Test.YtggnhdeldmkdmaaGreatDoorPpT
namespace Go.Proofs.YtggnhdeldmkdmaaGreatDoor
open Go.RowKit Go.Shelf
set_option maxHeartbeats 4000000
set_option maxRecDepth 100000
set_option linter.unusedVariables false
set_option linter.unusedSimpArgs false
theorem grP_setN {a b : World} {g L j : Nat} (h : a.grownBy b (some g)) (hL : a.heap.size ≤ L) (u : Value) : a.grownBy (b.setCell ⟨L, j, none⟩ u) (some g) :=
  ⟨h.os, h.tape, h.output, by rw [World.size_setCell]; exact h.size, fun i hi hr => (Below.heap_setCell b ⟨L, j, none⟩ u i (by show i ≠ L; omega)).trans (h.block i hi hr)⟩
theorem grP_own1 (b : World) (L j : Nat) (u : Value) : b.grownBy (b.setCell ⟨L, j, none⟩ u) (some L) := grP_set (grP_refl _ _) u
theorem OwnR.setN {w : World} {base L j : Nat} {T : TypeId} {v : Value} {M : List Trm} (h : OwnR w base T v M) (hk : ∀ k, v.ownBlock = some k → k < L) (u : Value) : OwnR (w.setCell ⟨L, j, none⟩ u) base T v M :=
  h.kept (grP_own1 w L j u) (fun k e e2 => by have := hk k e; have := Option.some.inj e2; omega)
theorem i_block (f k : Nat) (hk : 7 ≤ k ∧ k ≤ 12) (EX : OpI 62 f (.chain true)) : BlkI (f + 1) k := by
  intro T w g hp hE hT hne
  obtain ⟨X, hXX⟩ : ∃ X, X = prs (f + 1) (.block k) T := ⟨_, rfl⟩
  rw [← hXX] at hne ⊢
  simp only [prs] at hXX
  have hgl := hp.lt
  have HE := Lib.hid hE
  have HXX := Lib.hid hXX
  have HNE := Lib.hid hne
  have HEX := Lib.hid EX
  clear hXX hE hne EX
  have cv := (HE.out.ops k (by omega)).2.1
  have cn := (HE.out.ops k (by omega)).2.2
  rw [opV_tk k (by omega) (by omega)] at cv
  rw [opN_cnt k (by omega)] at cn
  have OPC : Hid (∀ W, Ops W → W.cell? ⟨0, k * 3 + 1, none⟩ = some (.int .i64 (tkK (k : Int) : Nat)) ∧ W.cell? ⟨0, k * 3 + 2, none⟩ = some (.bool (cntK (k : Int)))) := Lib.hid (fun W h => by
    have cv := (h k (by omega)).2.1
    have cn := (h k (by omega)).2.2
    rw [opV_tk k (by omega) (by omega)] at cv
    rw [opN_cnt k (by omega)] at cn
    exact ⟨cv, cn⟩)
  have hk13 : k < 13 := by omega
  clear cv cn
  cases h0 : nd [40] T with
  | out => exact absurd h0 (nd_in _ _)
  | bad =>
    have ND := Lib.hid (i_need_no g [40] T w hp h0)
    have HX : Hid (X = .bad) := Lib.hid (by rw [HXX.out, h0]; rfl)
    clear h0 hp
    go_enter Tryz.func156, Tryz.ntmps156
    go_wp2_with fail
    refine ND.out.mono ?_
    rintro e w1 ⟨rfl, hg1⟩
    have HG1 := Lib.hid hg1
    clear hg1
    unfold Bad
    go_wp2_with fail
    all_goals exact ⟨rfl, retI_bad HG1.out HX.out⟩
  | ok u0 r0 =>
  have e0 := nd_ok h0
  subst e0
  simp only [List.length_cons] at hT
  have ND0 := Lib.hid (i_need_yes g [40] r0 w hp)
  have hq : prs f (.chain true) r0 ≠ .out := by
    intro e
    have h2 := HXX.out
    rw [h0, PR.bind, e] at h2
    exact HNE.out h2
  have CE := Lib.hid (fun W h1 h2 => HEX.out r0 W g h1 h2 (by omega) hq)
  have HX0 := Lib.hid HXX.out
  rw [h0] at HX0
  clear h0 hp HXX
  obtain ⟨q, hqq⟩ : ∃ q, q = prs f (.chain true) r0 := ⟨_, rfl⟩
  have HQ := Lib.hid hqq
  have HX1 := Lib.hid (show X = (prs f (.chain true) r0).bind _ from HX0.out)
  rw [← hqq] at HX1 hq CE
  clear hqq HX0
  go_enter Tryz.func156, Tryz.ntmps156
  go_wp2_with fail
  refine ND0.out.mono ?_
  rintro e w1 ⟨rfl, hp1, hg1⟩
  have HP1 := Lib.hid hp1; have HG1 := Lib.hid hg1; have HE1 := Lib.hid (HE.out.grown hg1)
  clear hp1 hg1 ND0
  go_wp2_with fail
  refine (CE.out _ HP1.out HE1.out).mono ?_
  rintro e w2 ⟨hg2, hr⟩
  have HG2 := Lib.hid (grP_trans HG1.out hg2)
  have HE2 := Lib.hid (HE1.out.grown hg2)
  cases q with
  | out => exact absurd rfl hq
  | bad =>
    have hr : e = Bad := hr
    subst hr
    have HX2 : Hid (X = .bad) := Lib.hid HX1.out
    clear hg2
    unfold Bad
    go_wp2_with fail
    all_goals exact ⟨rfl, retI_bad HG2.out HX2.out⟩
  | ok a r1 =>
  obtain ⟨v, rfl, ho, hp2⟩ := hr
  obtain ⟨la, oa, _⟩ := prs_ok f (.chain true) r0 a r1 trivial HQ.out.symm
  simp only [accL] at la
  have HO2 := Lib.hid (ho.mono HG1.out.size)
  have HP2 := Lib.hid hp2
  have OA := Lib.hid oa
  obtain ⟨c1, c2⟩ := OPC.out _ HE2.out.ops
  have hgw2 : 0 < w2.heap.size := HE2.out.ops.lt
  have HX2 : Hid (X = (if tkK (k : Int) = 2 then (nd [44] r1).bind fun _ r2 => (prs f (.chain true) r2).bind fun b r3 => PR.ok (a ++ b) r3 else .ok a r1).bind fun c r4 =>
      (if cntK (k : Int) = true then (nd [44] r4).bind fun _ r5 => nbr r5 else .ok 0 r4).bind fun m r6 =>
      (nd [41] r6).bind fun _ r7 => .ok (c ++ [((k : Int), [], m)]) r7) := Lib.hid HX1.out
  have HTK := Lib.hid (tk_cases k hk)
  have HTR : Hid (∀ m : Int, 0 ≤ m → m ≤ 9999 → TrR ((k : Int), [], m)) := Lib.hid (fun m h1 h2 => ⟨⟨by show _ ≤ (k : Int); omega, by show (k : Int) ≤ _; omega⟩, by simp, ⟨by show _ ≤ m; omega, by show m ≤ _; omega⟩⟩)
  clear hg2 ho hp2 HX1 CE oa hk
  generalize tkK (k : Int) = tk at c1 HX2 HTK OPC
  generalize cntK (k : Int) = cn at c2 HX2 OPC
  by_cases htk : tk = 2
  · subst htk
    have HX3 : Hid (X = ((nd [44] r1).bind fun _ r2 => (prs f (.chain true) r2).bind fun b r3 => PR.ok (a ++ b) r3).bind fun c r4 =>
      (if cn = true then (nd [44] r4).bind fun _ r5 => nbr r5 else .ok 0 r4).bind fun m r6 =>
      (nd [41] r6).bind fun _ r7 => .ok (c ++ [((k : Int), [], m)]) r7) := Lib.hid (by rw [HX2.out, if_pos rfl])
    clear HX2
    cases hn : nd [44] r1 with
    | out => exact absurd hn (nd_in _ _)
    | bad =>
      have ND := Lib.hid (i_need_no g [44] r1 _ HP2.out hn)
      have HXb : Hid (X = .bad) := Lib.hid (by rw [HX3.out, hn]; rfl)
      clear hn
      go_wp2_with fail
      refine ND.out.mono ?_
      rintro e w9 ⟨rfl, hg⟩
      have HGb := Lib.hid (grP_trans HG2.out hg)
      clear hg
      unfold Bad
      go_wp2_with fail
      all_goals exact ⟨rfl, retI_bad HGb.out HXb.out⟩
    | ok u2 r2 =>
    have e2 := nd_ok hn
    have HX4 : Hid (X = ((prs f (.chain true) r2).bind fun b r3 => PR.ok (a ++ b) r3).bind fun c r4 =>
      (if cn = true then (nd [44] r4).bind fun _ r5 => nbr r5 else .ok 0 r4).bind fun m r6 =>
      (nd [41] r6).bind fun _ r7 => .ok (c ++ [((k : Int), [], m)]) r7) := Lib.hid (by rw [HX3.out, hn]; rfl)
    subst e2
    simp only [List.length_cons] at la
    have ND2 := Lib.hid (i_need_yes g [44] r2 _ HP2.out)
    clear hn HX3
    have hq2 : prs f (.chain true) r2 ≠ .out := by
      intro e
      have h2 := HX4.out
      rw [e] at h2
      exact HNE.out h2
    have CE2 := Lib.hid (fun W h1 h2 => HEX.out r2 W g h1 h2 (by omega) hq2)
    obtain ⟨q2, hqq2⟩ : ∃ q, q = prs f (.chain true) r2 := ⟨_, rfl⟩
    have HQ2 := Lib.hid hqq2
    rw [← hqq2] at HX4 hq2 CE2
    clear hqq2
    go_wp2_with fail
    refine ND2.out.mono ?_
    rintro e w3 ⟨rfl, hp3, hg3⟩
    have HP3 := Lib.hid hp3; have HG3 := Lib.hid (grP_trans HG2.out hg3); have HE3 := Lib.hid (HE2.out.grown hg3)
    have HO3 := Lib.hid (HO2.out.keptG hg3 hgl)
    clear hp3 hg3 ND2 c1 c2
    go_wp2_with fail
    refine (CE2.out _ HP3.out HE3.out).mono ?_
    rintro e w4 ⟨hg4, hr⟩
    have HG4 := Lib.hid (grP_trans HG3.out hg4)
    have HE4 := Lib.hid (HE3.out.grown hg4)
    cases q2 with
    | out => exact absurd rfl hq2
    | bad =>
      have hr : e = Bad := hr
      subst hr
      have HX5 : Hid (X = .bad) := Lib.hid HX4.out
      clear hg4
      unfold Bad
      go_wp2_with fail
      all_goals exact ⟨rfl, retI_bad HG4.out HX5.out⟩
    | ok b r3 =>
    obtain ⟨u, rfl, ho4, hp4⟩ := hr
    obtain ⟨lb, ob, _⟩ := prs_ok f (.chain true) r2 b r3 trivial HQ2.out.symm
    simp only [accL] at lb
    have NEB := Lib.hid (one_ne ob)
    have HV4 := Lib.hid (HO3.out.keptG hg4 hgl)
    have HU4 := Lib.hid ho4
    have HP4 := Lib.hid hp4
    have hsz4 : w.heap.size ≤ w4.heap.size := HG4.out.size
    have la1 : a.length ≤ 100000000 := by omega
    have lb1 : b.length ≤ 100000000 := by omega
    have HX5 : Hid (X = (if cn = true then (nd [44] r3).bind fun _ r5 => nbr r5 else .ok 0 r3).bind fun m r6 =>
      (nd [41] r6).bind fun _ r7 => .ok ((a ++ b) ++ [((k : Int), [], m)]) r7) := Lib.hid HX4.out
    clear hg4 ho4 hp4 ob HX4 CE2
    cases cn
    · have HX6 : Hid (X = (PR.ok (0 : Int) r3).bind fun m r6 => (nd [41] r6).bind fun _ r7 => .ok ((a ++ b) ++ [((k : Int), [], m)]) r7) := Lib.hid HX5.out
      go_wp2_with (at_builtin; refine appRS rfl _ _ rfl w.heap.size _ _ a b _ _ HV4.out HU4.out NEB.out rfl rfl la1 lb1 hsz4 ?_; intro v7 w7 ho7 hg7; have O7 := Lib.hid ho7; have HG7 := Lib.hid (grP_own HG4.out hg7 (fun q e => (HV4.out.lt q e).1)); have HP7 := Lib.hid (HP4.out.grown hg7 (fun q e => by have := (HV4.out.lt q e).1; omega)); have HE7 := Lib.hid (HE4.out.grownR hg7 (fun q e => by have := (HV4.out.lt q e).1; omega)); obtain ⟨c1, c2⟩ := OPC.out _ HE7.out.ops; have hgw7 : 0 < w7.heap.size := HE7.out.ops.lt; clear ho7 hg7)
      have HGx := Lib.hid (grP_later HG7.out ((Later.refl w7).alloc (.cells #[.int .i64 (k : Int), .string ⟨#[]⟩, .int .i64 0] 47)))
      have HOx := Lib.hid (O7.out.later ((Later.refl w7).alloc (.cells #[.int .i64 (k : Int), .string ⟨#[]⟩, .int .i64 0] 47)))
      have HPx := Lib.hid (HP7.out.later ((Later.refl w7).alloc (.cells #[.int .i64 (k : Int), .string ⟨#[]⟩, .int .i64 0] 47)))
      have HEx := Lib.hid (HE7.out.later ((Later.refl w7).alloc (.cells #[.int .i64 (k : Int), .string ⟨#[]⟩, .int .i64 0] 47)))
      have OWL := Lib.hid (fun q e => (O7.out.lt q e).2)
      have b0 : (w7.alloc (.cells #[.int .i64 (k : Int), .string ⟨#[]⟩, .int .i64 0] 47)).cell? ⟨w7.heap.size, 0, none⟩ = some (.int .i64 (k : Int)) := by rw [cell_of_row _ _ 0 _ _ (0, 0) (heap_alloc_new w7 _)]; rfl
      have b1 : (w7.alloc (.cells #[.int .i64 (k : Int), .string ⟨#[]⟩, .int .i64 0] 47)).cell? ⟨w7.heap.size, 1, none⟩ = some (.string ⟨#[]⟩) := by rw [cell_of_row _ _ 1 _ _ (0, 0) (heap_alloc_new w7 _)]; rfl
      have b2 : (w7.alloc (.cells #[.int .i64 (k : Int), .string ⟨#[]⟩, .int .i64 0] 47)).cell? ⟨w7.heap.size, 2, none⟩ = some (.int .i64 0) := by rw [cell_of_row _ _ 2 _ _ (0, 0) (heap_alloc_new w7 _)]; rfl
      have f2 : (w7.alloc (.cells #[.int .i64 (k : Int), .string ⟨#[]⟩, .int .i64 0] 47)).frozen? ⟨w7.heap.size, 2, none⟩ = false := ((fr_alloc (X := w7) (l := [.int .i64 (k : Int), .string ⟨#[]⟩, .int .i64 0]) (T := 47) (Later.refl _)).2 2 (.int .i64 0) rfl).2
      have hgB : g < w7.heap.size := HP7.out.lt
      have hszB : w.heap.size ≤ w7.heap.size := HG7.out.size
      have CX : Hid (∀ W', World.grownBy (w7.alloc (.cells #[.int .i64 (k : Int), .string ⟨#[]⟩, .int .i64 0] 47)) W' (some g) → W'.cell? ⟨w7.heap.size, 0, none⟩ = some (.int .i64 (k : Int)) ∧ W'.cell? ⟨w7.heap.size, 1, none⟩ = some (.string ⟨#[]⟩) ∧ W'.cell? ⟨w7.heap.size, 2, none⟩ = some (.int .i64 0)) := Lib.hid (fun W' h => by
        have hne : some w7.heap.size ≠ some g := fun e => by have := Option.some.inj e; omega
        exact ⟨h.cell b0 hne, h.cell b1 hne, h.cell b2 hne⟩)
      have HXn : Hid (X = (nd [41] r3).bind fun _ r7 => .ok (a ++ b ++ [((k : Int), [], (0 : Int))]) r7) := Lib.hid HX6.out
      clear b0 b1 b2 f2
      skip
      cases hn : nd [41] r3 with
      | out => exact absurd hn (nd_in _ _)
      | bad =>
        have ND := Lib.hid (i_need_no g [41] r3 _ HPx.out hn)
        have HXb : Hid (X = .bad) := Lib.hid (by rw [HXn.out, hn]; rfl)
        clear hn
        skip
        refine ND.out.mono ?_
        rintro e w9 ⟨rfl, hg⟩
        have HGb := Lib.hid (grP_trans HGx.out hg)
        clear hg
        unfold Bad
        go_wp2_with fail
        all_goals exact ⟨rfl, retI_bad HGb.out HXb.out⟩
      | ok u7 r7 =>
      have e7 := nd_ok hn
      have HXc : Hid (X = .ok (a ++ b ++ [((k : Int), [], 0)]) r7) := Lib.hid (by rw [HXn.out, hn]; rfl)
      subst e7
      have ND7 := Lib.hid (i_need_yes g [41] r7 _ HPx.out)
      clear hn HXn
      skip
      refine ND7.out.mono ?_
      rintro e w8 ⟨rfl, hp8, hg8⟩
      have HG8 := Lib.hid (grP_trans HGx.out hg8)
      have HO8 := Lib.hid (HOx.out.keptG hg8 hgl)
      have HP8 := Lib.hid hp8
      have hsz8 : w.heap.size ≤ w8.heap.size := HG8.out.size
      obtain ⟨l0, l1, l2⟩ := CX.out _ hg8
      have lc : (a ++ b).length ≤ 1000000000 := by rw [List.length_append]; omega
      clear hp8 hg8 ND7
      go_wp2_with (at_builtin; refine appR rfl _ _ 47 36 (.agg #[.int .i64 0, .string ⟨#[]⟩, .int .i64 0]) 32 info_trmP Tryz.underlying36 rfl (by omega) rfl w.heap.size _ _ _ (a ++ b) (k : Int) [] 0 HO8.out rfl rfl (HTR.out _ (by omega) (by omega)) lc hsz8 ?_; intro v9 w9 ho9 hg9; have O9 := Lib.hid ho9; have HG9 := Lib.hid (grP_own HG8.out hg9 (fun q e => (HO8.out.lt q e).1)); have HP9 := Lib.hid (HP8.out.grown hg9 (fun q e => by have := (HO8.out.lt q e).1; omega)); clear ho9 hg9)
      go_ret
      exact retI_ok HG9.out O9.out HP9.out HXc.out
    · have HX6 : Hid (X = ((nd [44] r3).bind fun _ r5 => nbr r5).bind fun m r6 => (nd [41] r6).bind fun _ r7 => .ok ((a ++ b) ++ [((k : Int), [], m)]) r7) := Lib.hid HX5.out
      go_wp2_with (at_builtin; refine appRS rfl _ _ rfl w.heap.size _ _ a b _ _ HV4.out HU4.out NEB.out rfl rfl la1 lb1 hsz4 ?_; intro v7 w7 ho7 hg7; have O7 := Lib.hid ho7; have HG7 := Lib.hid (grP_own HG4.out hg7 (fun q e => (HV4.out.lt q e).1)); have HP7 := Lib.hid (HP4.out.grown hg7 (fun q e => by have := (HV4.out.lt q e).1; omega)); have HE7 := Lib.hid (HE4.out.grownR hg7 (fun q e => by have := (HV4.out.lt q e).1; omega)); obtain ⟨c1, c2⟩ := OPC.out _ HE7.out.ops; have hgw7 : 0 < w7.heap.size := HE7.out.ops.lt; clear ho7 hg7)
      have HGx := Lib.hid (grP_later HG7.out ((Later.refl w7).alloc (.cells #[.int .i64 (k : Int), .string ⟨#[]⟩, .int .i64 0] 47)))
      have HOx := Lib.hid (O7.out.later ((Later.refl w7).alloc (.cells #[.int .i64 (k : Int), .string ⟨#[]⟩, .int .i64 0] 47)))
      have HPx := Lib.hid (HP7.out.later ((Later.refl w7).alloc (.cells #[.int .i64 (k : Int), .string ⟨#[]⟩, .int .i64 0] 47)))
      have HEx := Lib.hid (HE7.out.later ((Later.refl w7).alloc (.cells #[.int .i64 (k : Int), .string ⟨#[]⟩, .int .i64 0] 47)))
      have OWL := Lib.hid (fun q e => (O7.out.lt q e).2)
      have b0 : (w7.alloc (.cells #[.int .i64 (k : Int), .string ⟨#[]⟩, .int .i64 0] 47)).cell? ⟨w7.heap.size, 0, none⟩ = some (.int .i64 (k : Int)) := by rw [cell_of_row _ _ 0 _ _ (0, 0) (heap_alloc_new w7 _)]; rfl
      have b1 : (w7.alloc (.cells #[.int .i64 (k : Int), .string ⟨#[]⟩, .int .i64 0] 47)).cell? ⟨w7.heap.size, 1, none⟩ = some (.string ⟨#[]⟩) := by rw [cell_of_row _ _ 1 _ _ (0, 0) (heap_alloc_new w7 _)]; rfl
      have b2 : (w7.alloc (.cells #[.int .i64 (k : Int), .string ⟨#[]⟩, .int .i64 0] 47)).cell? ⟨w7.heap.size, 2, none⟩ = some (.int .i64 0) := by rw [cell_of_row _ _ 2 _ _ (0, 0) (heap_alloc_new w7 _)]; rfl
      have f2 : (w7.alloc (.cells #[.int .i64 (k : Int), .string ⟨#[]⟩, .int .i64 0] 47)).frozen? ⟨w7.heap.size, 2, none⟩ = false := ((fr_alloc (X := w7) (l := [.int .i64 (k : Int), .string ⟨#[]⟩, .int .i64 0]) (T := 47) (Later.refl _)).2 2 (.int .i64 0) rfl).2
      have hgB : g < w7.heap.size := HP7.out.lt
      have hszB : w.heap.size ≤ w7.heap.size := HG7.out.size
      have CX : Hid (∀ W', World.grownBy (w7.alloc (.cells #[.int .i64 (k : Int), .string ⟨#[]⟩, .int .i64 0] 47)) W' (some g) → W'.cell? ⟨w7.heap.size, 0, none⟩ = some (.int .i64 (k : Int)) ∧ W'.cell? ⟨w7.heap.size, 1, none⟩ = some (.string ⟨#[]⟩) ∧ W'.cell? ⟨w7.heap.size, 2, none⟩ = some (.int .i64 0)) := Lib.hid (fun W' h => by
        have hne : some w7.heap.size ≠ some g := fun e => by have := Option.some.inj e; omega
        exact ⟨h.cell b0 hne, h.cell b1 hne, h.cell b2 hne⟩)
      have FX : Hid (∀ W', World.grownBy (w7.alloc (.cells #[.int .i64 (k : Int), .string ⟨#[]⟩, .int .i64 0] 47)) W' (some g) → W'.frozen? ⟨w7.heap.size, 2, none⟩ = false) := Lib.hid (fun W' h => by
        rw [World.frozen?_of_block (h.block w7.heap.size (by simp) (fun e => by have := Option.some.inj e; omega))]; exact f2)
      have HXn : Hid (X = ((nd [44] r3).bind fun _ r5 => nbr r5).bind fun m r6 => (nd [41] r6).bind fun _ r7 => .ok (a ++ b ++ [((k : Int), [], m)]) r7) := Lib.hid HX6.out
      clear b0 b1 b2 f2
      skip
      cases hn : nd [44] r3 with
      | out => exact absurd hn (nd_in _ _)
      | bad =>
        have ND := Lib.hid (i_need_no g [44] r3 _ HPx.out hn)
        have HXb : Hid (X = .bad) := Lib.hid (by rw [HXn.out, hn]; rfl)
        clear hn
        refine ND.out.mono ?_
        rintro e w9 ⟨rfl, hg⟩
        have HGb := Lib.hid (grP_trans HGx.out hg)
        clear hg
        unfold Bad
        go_wp2_with fail
        all_goals exact ⟨rfl, retI_bad HGb.out HXb.out⟩
      | ok u5 r5 =>
      have e5 := nd_ok hn
      have HXm : Hid (X = (nbr r5).bind fun m r6 => (nd [41] r6).bind fun _ r7 => .ok (a ++ b ++ [((k : Int), [], m)]) r7) := Lib.hid (by rw [HXn.out, hn]; rfl)
      subst e5
      have ND5 := Lib.hid (i_need_yes g [44] r5 _ HPx.out)
      clear hn HXn
      refine ND5.out.mono ?_
      rintro e w5 ⟨rfl, hp5, hg5⟩
      have HG5 := Lib.hid (grP_trans HGx.out hg5)
      have HO5 := Lib.hid (HOx.out.keptG hg5 hgl)
      have HP5 := Lib.hid hp5
      have HE5 := Lib.hid (HEx.out.grown hg5)
      have HB5 := Lib.hid hg5
      clear hp5 hg5 ND5
      cases hm : nbr r5 with
      | out => exact absurd hm (nbr_in _)
      | bad =>
        have NM := Lib.hid (i_number_no g r5 _ HP5.out HE5.out hm)
        have HXb : Hid (X = .bad) := Lib.hid (by rw [HXm.out, hm]; rfl)
        clear hm
        go_wp2_with fail
        refine NM.out.mono ?_
        rintro e w6 ⟨rfl, hg⟩
        have HGb := Lib.hid (grP_trans HG5.out hg)
        clear hg
        unfold Bad
        go_wp2_with fail
        all_goals exact ⟨rfl, retI_bad HGb.out HXb.out⟩
      | ok m0 r6 =>
      obtain ⟨y, ey, hy, em⟩ := nbr_ok hm
      have hml := num_le hy
      have HXo : Hid (X = (nd [41] r6).bind fun _ r7 => .ok (a ++ b ++ [((k : Int), [], ((vl 0 y : Nat) : Int))]) r7) := Lib.hid (by rw [HXm.out, hm, em]; rfl)
      subst ey
      have NM := Lib.hid (i_number_yes g y r6 _ HP5.out HE5.out hy)
      clear hm hy HXm em
      generalize vl 0 y = m at HXo NM hml
      go_wp2_with fail
      refine NM.out.mono ?_
      rintro e w6 ⟨rfl, hp6, hg6⟩
      have HP6 := Lib.hid hp6
      have HG6 := Lib.hid (grP_trans HG5.out hg6)
      have HO6 := Lib.hid (HO5.out.keptG hg6 hgl)
      have HB6 := Lib.hid (grP_trans HB5.out hg6)
      obtain ⟨l0, l1, l2⟩ := CX.out _ HB6.out
      have lf := FX.out _ HB6.out
      have HPs := Lib.hid (HP6.out.grown (grP_own1 w6 w7.heap.size 2 (.int .i64 (m : Int))) (fun q e => by have := Option.some.inj e; omega))
      have HOs := Lib.hid (HO6.out.setN (L := w7.heap.size) (j := 2) OWL.out (.int .i64 (m : Int)))
      have HGs := Lib.hid (grP_setN (L := w7.heap.size) (j := 2) HG6.out hszB (.int .i64 (m : Int)))
      have CS : Hid (∀ W', World.grownBy (w6.setCell ⟨w7.heap.size, 2, none⟩ (.int .i64 (m : Int))) W' (some g) → W'.cell? ⟨w7.heap.size, 0, none⟩ = some (.int .i64 (k : Int)) ∧ W'.cell? ⟨w7.heap.size, 1, none⟩ = some (.string ⟨#[]⟩) ∧ W'.cell? ⟨w7.heap.size, 2, none⟩ = some (.int .i64 (m : Int))) := Lib.hid (fun W' h => by
        have hne : some w7.heap.size ≠ some g := fun e => by have := Option.some.inj e; omega
        refine ⟨h.cell ?_ hne, h.cell ?_ hne, h.cell ?_ hne⟩
        · rw [World.cell?_setCell_other _ _ _ _ (fun e2 => by cases e2)]; exact l0
        · rw [World.cell?_setCell_other _ _ _ _ (fun e2 => by cases e2)]; exact l1
        · exact World.cell?_setCell_same _ _ _ l2)
      clear hp6 hg6 NM
      go_wp2_with fail
      cases hn : nd [41] r6 with
      | out => exact absurd hn (nd_in _ _)
      | bad =>
        have ND := Lib.hid (i_need_no g [41] r6 _ HPs.out hn)
        have HXb : Hid (X = .bad) := Lib.hid (by rw [HXo.out, hn]; rfl)
        clear hn
        skip
        refine ND.out.mono ?_
        rintro e w9 ⟨rfl, hg⟩
        have HGb := Lib.hid (grP_trans HGs.out hg)
        clear hg
        unfold Bad
        go_wp2_with fail
        all_goals exact ⟨rfl, retI_bad HGb.out HXb.out⟩
      | ok u7 r7 =>
      have e7 := nd_ok hn
      have HXc : Hid (X = .ok (a ++ b ++ [((k : Int), [], (m : Int))]) r7) := Lib.hid (by rw [HXo.out, hn]; rfl)
      subst e7
      have ND7 := Lib.hid (i_need_yes g [41] r7 _ HPs.out)
      clear hn HXo
      skip
      refine ND7.out.mono ?_
      rintro e w8 ⟨rfl, hp8, hg8⟩
      have HG8 := Lib.hid (grP_trans HGs.out hg8)
      have HO8 := Lib.hid (HOs.out.keptG hg8 hgl)
      have HP8 := Lib.hid hp8
      have hsz8 : w.heap.size ≤ w8.heap.size := HG8.out.size
      obtain ⟨l0, l1, l2⟩ := CS.out _ hg8
      have lc : (a ++ b).length ≤ 1000000000 := by rw [List.length_append]; omega
      clear hp8 hg8 ND7
      go_wp2_with (at_builtin; refine appR rfl _ _ 47 36 (.agg #[.int .i64 0, .string ⟨#[]⟩, .int .i64 0]) 32 info_trmP Tryz.underlying36 rfl (by omega) rfl w.heap.size _ _ _ (a ++ b) (k : Int) [] (m : Int) HO8.out rfl rfl (HTR.out _ (by omega) (by omega)) lc hsz8 ?_; intro v9 w9 ho9 hg9; have O9 := Lib.hid ho9; have HG9 := Lib.hid (grP_own HG8.out hg9 (fun q e => (HO8.out.lt q e).1)); have HP9 := Lib.hid (HP8.out.grown hg9 (fun q e => by have := (HO8.out.lt q e).1; omega)); clear ho9 hg9)
      go_ret
      exact retI_ok HG9.out O9.out HP9.out HXc.out
  · have htk1 : tk = 1 := HTK.out.resolve_right htk
    subst htk1
    have HX5 : Hid (X = (if cn = true then (nd [44] r1).bind fun _ r5 => nbr r5 else .ok 0 r1).bind fun m r6 =>
      (nd [41] r6).bind fun _ r7 => .ok (a ++ [((k : Int), [], m)]) r7) := Lib.hid (by rw [HX2.out, if_neg htk]; rfl)
    clear HX2 htk
    cases cn
    · have HX6 : Hid (X = (PR.ok (0 : Int) r1).bind fun m r6 => (nd [41] r6).bind fun _ r7 => .ok (a ++ [((k : Int), [], m)]) r7) := Lib.hid HX5.out
      go_wp2_with fail
      have HGx := Lib.hid (grP_later HG2.out ((Later.refl w2).alloc (.cells #[.int .i64 (k : Int), .string ⟨#[]⟩, .int .i64 0] 47)))
      have HOx := Lib.hid (HO2.out.later ((Later.refl w2).alloc (.cells #[.int .i64 (k : Int), .string ⟨#[]⟩, .int .i64 0] 47)))
      have HPx := Lib.hid (HP2.out.later ((Later.refl w2).alloc (.cells #[.int .i64 (k : Int), .string ⟨#[]⟩, .int .i64 0] 47)))
      have HEx := Lib.hid (HE2.out.later ((Later.refl w2).alloc (.cells #[.int .i64 (k : Int), .string ⟨#[]⟩, .int .i64 0] 47)))
      have OWL := Lib.hid (fun q e => (HO2.out.lt q e).2)
      have b0 : (w2.alloc (.cells #[.int .i64 (k : Int), .string ⟨#[]⟩, .int .i64 0] 47)).cell? ⟨w2.heap.size, 0, none⟩ = some (.int .i64 (k : Int)) := by rw [cell_of_row _ _ 0 _ _ (0, 0) (heap_alloc_new w2 _)]; rfl
      have b1 : (w2.alloc (.cells #[.int .i64 (k : Int), .string ⟨#[]⟩, .int .i64 0] 47)).cell? ⟨w2.heap.size, 1, none⟩ = some (.string ⟨#[]⟩) := by rw [cell_of_row _ _ 1 _ _ (0, 0) (heap_alloc_new w2 _)]; rfl
      have b2 : (w2.alloc (.cells #[.int .i64 (k : Int), .string ⟨#[]⟩, .int .i64 0] 47)).cell? ⟨w2.heap.size, 2, none⟩ = some (.int .i64 0) := by rw [cell_of_row _ _ 2 _ _ (0, 0) (heap_alloc_new w2 _)]; rfl
      have f2 : (w2.alloc (.cells #[.int .i64 (k : Int), .string ⟨#[]⟩, .int .i64 0] 47)).frozen? ⟨w2.heap.size, 2, none⟩ = false := ((fr_alloc (X := w2) (l := [.int .i64 (k : Int), .string ⟨#[]⟩, .int .i64 0]) (T := 47) (Later.refl _)).2 2 (.int .i64 0) rfl).2
      have hgB : g < w2.heap.size := HP2.out.lt
      have hszB : w.heap.size ≤ w2.heap.size := HG2.out.size
      have CX : Hid (∀ W', World.grownBy (w2.alloc (.cells #[.int .i64 (k : Int), .string ⟨#[]⟩, .int .i64 0] 47)) W' (some g) → W'.cell? ⟨w2.heap.size, 0, none⟩ = some (.int .i64 (k : Int)) ∧ W'.cell? ⟨w2.heap.size, 1, none⟩ = some (.string ⟨#[]⟩) ∧ W'.cell? ⟨w2.heap.size, 2, none⟩ = some (.int .i64 0)) := Lib.hid (fun W' h => by
        have hne : some w2.heap.size ≠ some g := fun e => by have := Option.some.inj e; omega
        exact ⟨h.cell b0 hne, h.cell b1 hne, h.cell b2 hne⟩)
      have HXn : Hid (X = (nd [41] r1).bind fun _ r7 => .ok (a ++ [((k : Int), [], (0 : Int))]) r7) := Lib.hid HX6.out
      clear b0 b1 b2 f2
      skip
      cases hn : nd [41] r1 with
      | out => exact absurd hn (nd_in _ _)
      | bad =>
        have ND := Lib.hid (i_need_no g [41] r1 _ HPx.out hn)
        have HXb : Hid (X = .bad) := Lib.hid (by rw [HXn.out, hn]; rfl)
        clear hn
        skip
        refine ND.out.mono ?_
        rintro e w9 ⟨rfl, hg⟩
        have HGb := Lib.hid (grP_trans HGx.out hg)
        clear hg
        unfold Bad
        go_wp2_with fail
        all_goals exact ⟨rfl, retI_bad HGb.out HXb.out⟩
      | ok u7 r7 =>
      have e7 := nd_ok hn
      have HXc : Hid (X = .ok (a ++ [((k : Int), [], 0)]) r7) := Lib.hid (by rw [HXn.out, hn]; rfl)
      subst e7
      have ND7 := Lib.hid (i_need_yes g [41] r7 _ HPx.out)
      clear hn HXn
      skip
      refine ND7.out.mono ?_
      rintro e w8 ⟨rfl, hp8, hg8⟩
      have HG8 := Lib.hid (grP_trans HGx.out hg8)
      have HO8 := Lib.hid (HOx.out.keptG hg8 hgl)
      have HP8 := Lib.hid hp8
      have hsz8 : w.heap.size ≤ w8.heap.size := HG8.out.size
      obtain ⟨l0, l1, l2⟩ := CX.out _ hg8
      have lc : (a).length ≤ 1000000000 := by omega
      clear hp8 hg8 ND7
      go_wp2_with (at_builtin; refine appR rfl _ _ 47 36 (.agg #[.int .i64 0, .string ⟨#[]⟩, .int .i64 0]) 32 info_trmP Tryz.underlying36 rfl (by omega) rfl w.heap.size _ _ _ (a) (k : Int) [] 0 HO8.out rfl rfl (HTR.out _ (by omega) (by omega)) lc hsz8 ?_; intro v9 w9 ho9 hg9; have O9 := Lib.hid ho9; have HG9 := Lib.hid (grP_own HG8.out hg9 (fun q e => (HO8.out.lt q e).1)); have HP9 := Lib.hid (HP8.out.grown hg9 (fun q e => by have := (HO8.out.lt q e).1; omega)); clear ho9 hg9)
      go_ret
      exact retI_ok HG9.out O9.out HP9.out HXc.out
    · have HX6 : Hid (X = ((nd [44] r1).bind fun _ r5 => nbr r5).bind fun m r6 => (nd [41] r6).bind fun _ r7 => .ok (a ++ [((k : Int), [], m)]) r7) := Lib.hid HX5.out
      go_wp2_with fail
      have HGx := Lib.hid (grP_later HG2.out ((Later.refl w2).alloc (.cells #[.int .i64 (k : Int), .string ⟨#[]⟩, .int .i64 0] 47)))
      have HOx := Lib.hid (HO2.out.later ((Later.refl w2).alloc (.cells #[.int .i64 (k : Int), .string ⟨#[]⟩, .int .i64 0] 47)))
      have HPx := Lib.hid (HP2.out.later ((Later.refl w2).alloc (.cells #[.int .i64 (k : Int), .string ⟨#[]⟩, .int .i64 0] 47)))
      have HEx := Lib.hid (HE2.out.later ((Later.refl w2).alloc (.cells #[.int .i64 (k : Int), .string ⟨#[]⟩, .int .i64 0] 47)))
      have OWL := Lib.hid (fun q e => (HO2.out.lt q e).2)
      have b0 : (w2.alloc (.cells #[.int .i64 (k : Int), .string ⟨#[]⟩, .int .i64 0] 47)).cell? ⟨w2.heap.size, 0, none⟩ = some (.int .i64 (k : Int)) := by rw [cell_of_row _ _ 0 _ _ (0, 0) (heap_alloc_new w2 _)]; rfl
      have b1 : (w2.alloc (.cells #[.int .i64 (k : Int), .string ⟨#[]⟩, .int .i64 0] 47)).cell? ⟨w2.heap.size, 1, none⟩ = some (.string ⟨#[]⟩) := by rw [cell_of_row _ _ 1 _ _ (0, 0) (heap_alloc_new w2 _)]; rfl
      have b2 : (w2.alloc (.cells #[.int .i64 (k : Int), .string ⟨#[]⟩, .int .i64 0] 47)).cell? ⟨w2.heap.size, 2, none⟩ = some (.int .i64 0) := by rw [cell_of_row _ _ 2 _ _ (0, 0) (heap_alloc_new w2 _)]; rfl
      have f2 : (w2.alloc (.cells #[.int .i64 (k : Int), .string ⟨#[]⟩, .int .i64 0] 47)).frozen? ⟨w2.heap.size, 2, none⟩ = false := ((fr_alloc (X := w2) (l := [.int .i64 (k : Int), .string ⟨#[]⟩, .int .i64 0]) (T := 47) (Later.refl _)).2 2 (.int .i64 0) rfl).2
      have hgB : g < w2.heap.size := HP2.out.lt
      have hszB : w.heap.size ≤ w2.heap.size := HG2.out.size
      have CX : Hid (∀ W', World.grownBy (w2.alloc (.cells #[.int .i64 (k : Int), .string ⟨#[]⟩, .int .i64 0] 47)) W' (some g) → W'.cell? ⟨w2.heap.size, 0, none⟩ = some (.int .i64 (k : Int)) ∧ W'.cell? ⟨w2.heap.size, 1, none⟩ = some (.string ⟨#[]⟩) ∧ W'.cell? ⟨w2.heap.size, 2, none⟩ = some (.int .i64 0)) := Lib.hid (fun W' h => by
        have hne : some w2.heap.size ≠ some g := fun e => by have := Option.some.inj e; omega
        exact ⟨h.cell b0 hne, h.cell b1 hne, h.cell b2 hne⟩)
      have FX : Hid (∀ W', World.grownBy (w2.alloc (.cells #[.int .i64 (k : Int), .string ⟨#[]⟩, .int .i64 0] 47)) W' (some g) → W'.frozen? ⟨w2.heap.size, 2, none⟩ = false) := Lib.hid (fun W' h => by
        rw [World.frozen?_of_block (h.block w2.heap.size (by simp) (fun e => by have := Option.some.inj e; omega))]; exact f2)
      have HXn : Hid (X = ((nd [44] r1).bind fun _ r5 => nbr r5).bind fun m r6 => (nd [41] r6).bind fun _ r7 => .ok (a ++ [((k : Int), [], m)]) r7) := Lib.hid HX6.out
      clear b0 b1 b2 f2
      skip
      cases hn : nd [44] r1 with
      | out => exact absurd hn (nd_in _ _)
      | bad =>
        have ND := Lib.hid (i_need_no g [44] r1 _ HPx.out hn)
        have HXb : Hid (X = .bad) := Lib.hid (by rw [HXn.out, hn]; rfl)
        clear hn
        refine ND.out.mono ?_
        rintro e w9 ⟨rfl, hg⟩
        have HGb := Lib.hid (grP_trans HGx.out hg)
        clear hg
        unfold Bad
        go_wp2_with fail
        all_goals exact ⟨rfl, retI_bad HGb.out HXb.out⟩
      | ok u5 r5 =>
      have e5 := nd_ok hn
      have HXm : Hid (X = (nbr r5).bind fun m r6 => (nd [41] r6).bind fun _ r7 => .ok (a ++ [((k : Int), [], m)]) r7) := Lib.hid (by rw [HXn.out, hn]; rfl)
      subst e5
      have ND5 := Lib.hid (i_need_yes g [44] r5 _ HPx.out)
      clear hn HXn
      refine ND5.out.mono ?_
      rintro e w5 ⟨rfl, hp5, hg5⟩
      have HG5 := Lib.hid (grP_trans HGx.out hg5)
      have HO5 := Lib.hid (HOx.out.keptG hg5 hgl)
      have HP5 := Lib.hid hp5
      have HE5 := Lib.hid (HEx.out.grown hg5)
      have HB5 := Lib.hid hg5
      clear hp5 hg5 ND5
      cases hm : nbr r5 with
      | out => exact absurd hm (nbr_in _)
      | bad =>
        have NM := Lib.hid (i_number_no g r5 _ HP5.out HE5.out hm)
        have HXb : Hid (X = .bad) := Lib.hid (by rw [HXm.out, hm]; rfl)
        clear hm
        go_wp2_with fail
        refine NM.out.mono ?_
        rintro e w6 ⟨rfl, hg⟩
        have HGb := Lib.hid (grP_trans HG5.out hg)
        clear hg
        unfold Bad
        go_wp2_with fail
        all_goals exact ⟨rfl, retI_bad HGb.out HXb.out⟩
      | ok m0 r6 =>
      obtain ⟨y, ey, hy, em⟩ := nbr_ok hm
      have hml := num_le hy
      have HXo : Hid (X = (nd [41] r6).bind fun _ r7 => .ok (a ++ [((k : Int), [], ((vl 0 y : Nat) : Int))]) r7) := Lib.hid (by rw [HXm.out, hm, em]; rfl)
      subst ey
      have NM := Lib.hid (i_number_yes g y r6 _ HP5.out HE5.out hy)
      clear hm hy HXm em
      generalize vl 0 y = m at HXo NM hml
      go_wp2_with fail
      refine NM.out.mono ?_
      rintro e w6 ⟨rfl, hp6, hg6⟩
      have HP6 := Lib.hid hp6
      have HG6 := Lib.hid (grP_trans HG5.out hg6)
      have HO6 := Lib.hid (HO5.out.keptG hg6 hgl)
      have HB6 := Lib.hid (grP_trans HB5.out hg6)
      obtain ⟨l0, l1, l2⟩ := CX.out _ HB6.out
      have lf := FX.out _ HB6.out
      have HPs := Lib.hid (HP6.out.grown (grP_own1 w6 w2.heap.size 2 (.int .i64 (m : Int))) (fun q e => by have := Option.some.inj e; omega))
      have HOs := Lib.hid (HO6.out.setN (L := w2.heap.size) (j := 2) OWL.out (.int .i64 (m : Int)))
      have HGs := Lib.hid (grP_setN (L := w2.heap.size) (j := 2) HG6.out hszB (.int .i64 (m : Int)))
      have CS : Hid (∀ W', World.grownBy (w6.setCell ⟨w2.heap.size, 2, none⟩ (.int .i64 (m : Int))) W' (some g) → W'.cell? ⟨w2.heap.size, 0, none⟩ = some (.int .i64 (k : Int)) ∧ W'.cell? ⟨w2.heap.size, 1, none⟩ = some (.string ⟨#[]⟩) ∧ W'.cell? ⟨w2.heap.size, 2, none⟩ = some (.int .i64 (m : Int))) := Lib.hid (fun W' h => by
        have hne : some w2.heap.size ≠ some g := fun e => by have := Option.some.inj e; omega
        refine ⟨h.cell ?_ hne, h.cell ?_ hne, h.cell ?_ hne⟩
        · rw [World.cell?_setCell_other _ _ _ _ (fun e2 => by cases e2)]; exact l0
        · rw [World.cell?_setCell_other _ _ _ _ (fun e2 => by cases e2)]; exact l1
        · exact World.cell?_setCell_same _ _ _ l2)
      clear hp6 hg6 NM
      go_wp2_with fail
      cases hn : nd [41] r6 with
      | out => exact absurd hn (nd_in _ _)
      | bad =>
        have ND := Lib.hid (i_need_no g [41] r6 _ HPs.out hn)
        have HXb : Hid (X = .bad) := Lib.hid (by rw [HXo.out, hn]; rfl)
        clear hn
        skip
        refine ND.out.mono ?_
        rintro e w9 ⟨rfl, hg⟩
        have HGb := Lib.hid (grP_trans HGs.out hg)
        clear hg
        unfold Bad
        go_wp2_with fail
        all_goals exact ⟨rfl, retI_bad HGb.out HXb.out⟩
      | ok u7 r7 =>
      have e7 := nd_ok hn
      have HXc : Hid (X = .ok (a ++ [((k : Int), [], (m : Int))]) r7) := Lib.hid (by rw [HXo.out, hn]; rfl)
      subst e7
      have ND7 := Lib.hid (i_need_yes g [41] r7 _ HPs.out)
      clear hn HXo
      skip
      refine ND7.out.mono ?_
      rintro e w8 ⟨rfl, hp8, hg8⟩
      have HG8 := Lib.hid (grP_trans HGs.out hg8)
      have HO8 := Lib.hid (HOs.out.keptG hg8 hgl)
      have HP8 := Lib.hid hp8
      have hsz8 : w.heap.size ≤ w8.heap.size := HG8.out.size
      obtain ⟨l0, l1, l2⟩ := CS.out _ hg8
      have lc : (a).length ≤ 1000000000 := by omega
      clear hp8 hg8 ND7
      go_wp2_with (at_builtin; refine appR rfl _ _ 47 36 (.agg #[.int .i64 0, .string ⟨#[]⟩, .int .i64 0]) 32 info_trmP Tryz.underlying36 rfl (by omega) rfl w.heap.size _ _ _ (a) (k : Int) [] (m : Int) HO8.out rfl rfl (HTR.out _ (by omega) (by omega)) lc hsz8 ?_; intro v9 w9 ho9 hg9; have O9 := Lib.hid ho9; have HG9 := Lib.hid (grP_own HG8.out hg9 (fun q e => (HO8.out.lt q e).1)); have HP9 := Lib.hid (HP8.out.grown hg9 (fun q e => by have := (HO8.out.lt q e).1; omega)); clear ho9 hg9)
      go_ret
      exact retI_ok HG9.out O9.out HP9.out HXc.out
theorem i_expression (f : Nat) (OP : ∀ f', f' ≤ f → OpI 113 f' (.chain false)) : OpI 62 (f + 1) (.chain true) := by
  intro T w g hp hE hT hne
  have C := Lib.hid (i_chain_true f OP T w g hp hE hT hne)
  clear hp hE OP
  have hmf : ∀ (fn : Fn) (first cap : Array Value) (w : World), (Instr.makeFunc fn first cap).run Tryz.prog w = .ok (.func fn first cap) w := fun _ _ _ _ => rfl
  generalize prs (f + 1) (.chain true) T = X at C hne ⊢
  go_enter Tryz.func62, Tryz.ntmps62
  go_wp2_with fail
  refine C.out.mono ?_
  rintro e w1 ⟨hg, hr⟩
  cases X with
  | out => exact absurd rfl hne
  | bad =>
    have hr : e = Bad := hr
    subst hr
    have HG := Lib.hid hg
    clear hg
    unfold Bad
    go_wp2_with fail
    all_goals exact ⟨rfl, retI_bad HG.out rfl⟩
  | ok a r =>
    obtain ⟨v, rfl, ho, hp1⟩ := hr
    have HG := Lib.hid hg; have HO := Lib.hid ho; have HP := Lib.hid hp1
    clear hg ho hp1
    go_wp2_with fail
    go_ret
    exact retI_ok HG.out HO.out HP.out rfl
theorem i_part (f : Nat) (OP : ∀ f', f' ≤ f → OpI 139 f' .factor) : OpI 113 (f + 1) (.chain false) := by
  intro T w g hp hE hT hne
  have C := Lib.hid (i_chain_false f OP T w g hp hE hT hne)
  clear hp hE OP
  have hmf : ∀ (fn : Fn) (first cap : Array Value) (w : World), (Instr.makeFunc fn first cap).run Tryz.prog w = .ok (.func fn first cap) w := fun _ _ _ _ => rfl
  generalize prs (f + 1) (.chain false) T = X at C hne ⊢
  go_enter Tryz.func113, Tryz.ntmps113
  go_wp2_with fail
  refine C.out.mono ?_
  rintro e w1 ⟨hg, hr⟩
  cases X with
  | out => exact absurd rfl hne
  | bad =>
    have hr : e = Bad := hr
    subst hr
    have HG := Lib.hid hg
    clear hg
    unfold Bad
    go_wp2_with fail
    all_goals exact ⟨rfl, retI_bad HG.out rfl⟩
  | ok a r =>
    obtain ⟨v, rfl, ho, hp1⟩ := hr
    have HG := Lib.hid hg; have HO := Lib.hid ho; have HP := Lib.hid hp1
    clear hg ho hp1
    go_wp2_with fail
    go_ret
    exact retI_ok HG.out HO.out HP.out rfl
/-- all parts of the parser, for every number of steps -/
theorem i_parts : ∀ f : Nat, (OpI 62 f (.chain true) ∧ OpI 113 f (.chain false) ∧ OpI 139 f .factor ∧ ∀ k, 7 ≤ k ∧ k ≤ 12 → BlkI f k) := by
  intro f
  induction f using Nat.strongRecOn with
  | ind f ih =>
    cases f with
    | zero =>
      refine ⟨fun T w g _ _ _ h => absurd rfl h, fun T w g _ _ _ h => absurd rfl h, fun T w g _ _ _ h => absurd rfl h, fun k _ T w g _ _ _ h => absurd rfl h⟩
    | succ f =>
      refine ⟨i_expression f (fun f' h => (ih f' (by omega)).2.1), i_part f (fun f' h => (ih f' (by omega)).2.2.1), i_factor f (ih f (by omega)).1 (ih f (by omega)).2.2.1 (ih f (by omega)).2.2.2, fun k hk => i_block f k hk (ih f (by omega)).1⟩
end Go.Proofs.YtggnhdeldmkdmaaGreatDoor
