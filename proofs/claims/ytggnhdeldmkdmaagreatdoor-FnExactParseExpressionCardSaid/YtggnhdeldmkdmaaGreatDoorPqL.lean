/- The parser's recursion, of the model: blocks, and all of it. -/
import Derived.Test.YtggnhdeldmkdmaaGreatDoorPqK
namespace Go.Proofs.YtggnhdeldmkdmaaGreatDoor
open Go.RowKit Go.Shelf
set_option maxHeartbeats 60000000
set_option maxRecDepth 100000
set_option linter.unusedVariables false
set_option linter.unusedSimpArgs false
variable {N : Nat}
theorem SSt.setN {w : World} {g L j : Nat} {T : TT} {b : Bool} (h : SSt N w g T b) (hL : g < L) (u : Value) : SSt N (w.setCell ⟨L, j, none⟩ u) g T b :=
  h.grown (grP_own1 w L j u) (fun k e => by have := Option.some.inj e; omega)
theorem s_block (f k : Nat) (hk : 7 ≤ k ∧ k ≤ 12) (EX : OpS N 63 f (.chain true)) : BlkS N (f + 1) k := by
  intro T w g hp hT hne
  obtain ⟨X, hXX⟩ : ∃ X, X = prs (f + 1) (.block k) T := ⟨_, rfl⟩
  rw [← hXX] at hne ⊢
  simp only [prs] at hXX
  have hgl := hp.lt
  have HXX := Lib.hid hXX
  have HNE := Lib.hid hne
  have HEX := Lib.hid EX
  have HTK := Lib.hid (tk_cases k hk)
  have ST := Lib.hid (fun W => s_Takes (k : Int) W)
  have SC := Lib.hid (fun W => s_Counts (k : Int) W)
  have HTR : Hid (∀ m : Int, 0 ≤ m → m ≤ 9999 → TrR ((k : Int), [], m)) := Lib.hid (fun m h1 h2 => ⟨⟨by show _ ≤ (k : Int); omega, by show (k : Int) ≤ _; omega⟩, by simp, ⟨by show _ ≤ m; omega, by show m ≤ _; omega⟩⟩)
  have hkR : -9223372036854775808 ≤ (k : Int) ∧ (k : Int) ≤ 9223372036854775807 := by omega
  clear hXX hne EX hk
  have HX0 : Hid (X = (nd [40] T).bind fun _ r0 => (prs f (.chain true) r0).bind fun a r1 => (if tkK (k : Int) = 2 then (nd [44] r1).bind fun _ r2 => (prs f (.chain true) r2).bind fun b r3 => PR.ok (a ++ b) r3 else .ok a r1).bind fun c r4 =>
      (if cntK (k : Int) = true then (nd [44] r4).bind fun _ r5 => nbr r5 else .ok 0 r4).bind fun m r6 =>
      (nd [41] r6).bind fun _ r7 => .ok (c ++ [((k : Int), [], m)]) r7) := Lib.hid HXX.out
  clear HXX
  generalize tkK (k : Int) = tk at HX0 HTK ST
  generalize cntK (k : Int) = cn at HX0 SC
  have HGr := Lib.hid (grP_refl w (some g))
  have HOr := Lib.hid (ownR_none w w.heap.size 47)
  have HPr := Lib.hid hp
  clear hp
  have htk : tk = 2 ∨ tk = 1 := HTK.out.symm
  rcases htk with rfl | rfl <;> cases cn
  · have HXs := Lib.hid HX0.out
    go_enter Tryz.func157, Tryz.ntmps157
    go_wp2_with fail
    cases hn : nd [40] T with
    | out => exact absurd hn (nd_in _ _)
    | bad =>
      have HXb : Hid (X = .bad) := Lib.hid (by rw [HXs.out, hn]; rfl)
      have WN := Lib.hid (s_want_no g [40] T false _ HPr.out (nd_head hn (by simp)))
      clear hn
      refine WN.out.mono ?_
      rintro e w1 ⟨rfl, hpw1, hgw1⟩
      have HGw1 := Lib.hid (grP_trans HGr.out hgw1)
      have HOw1 := Lib.hid (HOr.out.keptG hgw1 hgl)
      have HSw1 := Lib.hid hpw1
      clear hpw1 hgw1 WN
      go_wp2_with fail
      have CB := Lib.hid (s_Or_bad g T _ HSw1.out)
      refine CB.out.mono ?_
      rintro e w5 ⟨rfl, rfl⟩
      go_wp2_with fail
      refine (ST.out _).mono ?_
      rintro e w6 ⟨rfl, rfl⟩
      go_wp2_with fail
      have WB := Lib.hid (s_want_bad g [44] T _ HSw1.out (by simp))
      refine WB.out.mono ?_
      rintro e w7 ⟨rfl, ⟨T8, hT8, hpw7⟩, hgw7⟩
      have HGw7 := Lib.hid (grP_trans HGw1.out hgw7)
      have HOw7 := Lib.hid (HOw1.out.keptG hgw7 hgl)
      have HSw7 := Lib.hid hpw7
      clear hpw7 hgw7 WB
      obtain ⟨c9a, c9b⟩ := HSw7.out.flag
      go_wp2_with fail
      have HGx := Lib.hid (grP_later HGw7.out ((Later.refl w7).alloc (.cells #[.int .i64 (k : Int), .string ⟨#[]⟩, .int .i64 0] 47)))
      have HOx := Lib.hid (HOw7.out.later ((Later.refl w7).alloc (.cells #[.int .i64 (k : Int), .string ⟨#[]⟩, .int .i64 0] 47)))
      have HSx := Lib.hid (HSw7.out.later ((Later.refl w7).alloc (.cells #[.int .i64 (k : Int), .string ⟨#[]⟩, .int .i64 0] 47)))
      have OWL := Lib.hid (fun q e => (HOw7.out.lt q e).2)
      have FB := Lib.hid (fr_alloc (X := w7) (l := [.int .i64 (k : Int), .string ⟨#[]⟩, .int .i64 0]) (T := 47) (Later.refl _))
      have hgB : g < w7.heap.size := HSw7.out.lt
      have hszB : w.heap.size ≤ w7.heap.size := HGw7.out.size
      have CX : Hid (∀ W', World.grownBy (w7.alloc (.cells #[.int .i64 (k : Int), .string ⟨#[]⟩, .int .i64 0] 47)) W' (some g) → W'.cell? ⟨w7.heap.size, 0, none⟩ = some (.int .i64 (k : Int)) ∧ W'.cell? ⟨w7.heap.size, 1, none⟩ = some (.string ⟨#[]⟩) ∧ W'.cell? ⟨w7.heap.size, 2, none⟩ = some (.int .i64 0)) := Lib.hid (fun W' h => by
        have hne : some w7.heap.size ≠ some g := fun e => by have := Option.some.inj e; omega
        obtain ⟨b0, b1, b2, _⟩ := FB.out.o3
        exact ⟨h.cell b0 hne, h.cell b1 hne, h.cell b2 hne⟩)
      have FX : Hid (∀ W', World.grownBy (w7.alloc (.cells #[.int .i64 (k : Int), .string ⟨#[]⟩, .int .i64 0] 47)) W' (some g) → W'.frozen? ⟨w7.heap.size, 2, none⟩ = false) := Lib.hid (fun W' h => by
        rw [World.frozen?_of_block (h.block w7.heap.size (by simp) (fun e => by have := Option.some.inj e; omega))]; exact FB.out.o3.2.2.2.2.2)
      have HBx := Lib.hid (grP_refl (w7.alloc (.cells #[.int .i64 (k : Int), .string ⟨#[]⟩, .int .i64 0] 47)) (some g))
      refine (SC.out _).mono ?_
      rintro e w10 ⟨rfl, rfl⟩
      go_wp2_with fail
      have WB := Lib.hid (s_want_bad g [41] T8 _ HSx.out (by simp))
      refine WB.out.mono ?_
      rintro e w11 ⟨rfl, ⟨T12, hT12, hpw11⟩, hgw11⟩
      have HGw11 := Lib.hid (grP_trans HGx.out hgw11)
      have HOw11 := Lib.hid (HOx.out.keptG hgw11 hgl)
      have HBw11 := Lib.hid (grP_trans HBx.out hgw11)
      have HSw11 := Lib.hid hpw11
      clear hpw11 hgw11 WB
      obtain ⟨l140, l141, l142⟩ := CX.out _ HBw11.out
      have hsz8 : w.heap.size ≤ w11.heap.size := HGw11.out.size
      have lc : (([] : List Trm)).length ≤ 1000000000 := by (try simp only [List.length_append, List.length_cons, List.length_nil] at *); omega
      go_wp2_with (at_builtin; refine appR rfl _ _ 47 36 (.agg #[.int .i64 0, .string ⟨#[]⟩, .int .i64 0]) 32 info_trmP Tryz.underlying36 rfl (by omega) rfl w.heap.size _ _ _ (([] : List Trm)) (k : Int) [] 0 HOw11.out rfl rfl (HTR.out _ (by omega) (by omega)) lc hsz8 ?_; intro v9 w9 ho9 hg9; have O9 := Lib.hid ho9; have HG9 := Lib.hid (grP_own HGw11.out hg9 (fun q e => (HOw11.out.lt q e).1)); have HS9 := Lib.hid (HSw11.out.grown hg9 (fun q e => by have := (HOw11.out.lt q e).1; omega)); clear ho9 hg9)
      go_ret
      exact retS_bad HG9.out O9.out (by simp) (by (try simp only [List.length_append, List.length_cons, List.length_nil] at *); omega) HS9.out HXb.out
    | ok ur3 r3 =>
    have er3 := nd_ok hn
    have HX4 : Hid (X = (prs f (.chain true) r3).bind fun a r1 => ((nd [44] r1).bind fun _ r2 => (prs f (.chain true) r2).bind fun b r3 => PR.ok (a ++ b) r3).bind fun c r4 => (PR.ok (0 : Int) r4).bind fun m r6 => (nd [41] r6).bind fun _ r7 => .ok (c ++ [((k : Int), [], m)]) r7) := Lib.hid (by rw [HXs.out, hn]; rfl)
    subst er3
    have WY := Lib.hid (s_want_yes g [40] r3 false _ HPr.out)
    clear hn
    refine WY.out.mono ?_
    rintro e w2 ⟨rfl, hpw2, hgw2⟩
    have HGw2 := Lib.hid (grP_trans HGr.out hgw2)
    have HOw2 := Lib.hid (HOr.out.keptG hgw2 hgl)
    have HSw2 := Lib.hid hpw2
    clear hpw2 hgw2 WY
    go_wp2_with fail
    have hq : prs f (.chain true) r3 ≠ .out := by
      intro e
      have h2 := HX4.out
      rw [e] at h2
      exact HNE.out h2
    have LE1 := Lib.hid (HSw2.out.len)
    have CE := Lib.hid (fun W h1 => HEX.out r3 W g h1 LE1.out hq)
    obtain ⟨q0, hqq⟩ : ∃ q, q = prs f (.chain true) r3 := ⟨_, rfl⟩
    have HQ := Lib.hid hqq
    have HX1 : Hid (X = (prs f (.chain true) r3).bind _) := Lib.hid HX4.out
    rw [← hqq] at HX1 hq CE
    clear hqq
    refine (CE.out _ HSw2.out).mono ?_
    rintro e w15 ⟨hgw15, hr⟩
    have HGw15 := Lib.hid (grP_trans HGw2.out hgw15)
    cases q0 with
    | out => exact absurd rfl hq
    | bad =>
      obtain ⟨v, L16, T17, rfl, ho, hL, hlL16, hpn⟩ := hr
      have HOw15 := Lib.hid (ho.mono HGw2.out.size); have HSw15 := Lib.hid hpn
      have HX2 : Hid (X = .bad) := Lib.hid HX1.out
      clear hgw15 ho hL hpn
      go_wp2_with fail
      refine (ST.out _).mono ?_
      rintro e w20 ⟨rfl, rfl⟩
      go_wp2_with fail
      have WB := Lib.hid (s_want_bad g [44] T17 _ HSw15.out (by simp))
      refine WB.out.mono ?_
      rintro e w21 ⟨rfl, ⟨T22, hT22, hpw21⟩, hgw21⟩
      have HGw21 := Lib.hid (grP_trans HGw15.out hgw21)
      have HOw21 := Lib.hid (HOw15.out.keptG hgw21 hgl)
      have HSw21 := Lib.hid hpw21
      clear hpw21 hgw21 WB
      obtain ⟨c23a, c23b⟩ := HSw21.out.flag
      go_wp2_with fail
      have HGx := Lib.hid (grP_later HGw21.out ((Later.refl w21).alloc (.cells #[.int .i64 (k : Int), .string ⟨#[]⟩, .int .i64 0] 47)))
      have HOx := Lib.hid (HOw21.out.later ((Later.refl w21).alloc (.cells #[.int .i64 (k : Int), .string ⟨#[]⟩, .int .i64 0] 47)))
      have HSx := Lib.hid (HSw21.out.later ((Later.refl w21).alloc (.cells #[.int .i64 (k : Int), .string ⟨#[]⟩, .int .i64 0] 47)))
      have OWL := Lib.hid (fun q e => (HOw21.out.lt q e).2)
      have FB := Lib.hid (fr_alloc (X := w21) (l := [.int .i64 (k : Int), .string ⟨#[]⟩, .int .i64 0]) (T := 47) (Later.refl _))
      have hgB : g < w21.heap.size := HSw21.out.lt
      have hszB : w.heap.size ≤ w21.heap.size := HGw21.out.size
      have CX : Hid (∀ W', World.grownBy (w21.alloc (.cells #[.int .i64 (k : Int), .string ⟨#[]⟩, .int .i64 0] 47)) W' (some g) → W'.cell? ⟨w21.heap.size, 0, none⟩ = some (.int .i64 (k : Int)) ∧ W'.cell? ⟨w21.heap.size, 1, none⟩ = some (.string ⟨#[]⟩) ∧ W'.cell? ⟨w21.heap.size, 2, none⟩ = some (.int .i64 0)) := Lib.hid (fun W' h => by
        have hne : some w21.heap.size ≠ some g := fun e => by have := Option.some.inj e; omega
        obtain ⟨b0, b1, b2, _⟩ := FB.out.o3
        exact ⟨h.cell b0 hne, h.cell b1 hne, h.cell b2 hne⟩)
      have FX : Hid (∀ W', World.grownBy (w21.alloc (.cells #[.int .i64 (k : Int), .string ⟨#[]⟩, .int .i64 0] 47)) W' (some g) → W'.frozen? ⟨w21.heap.size, 2, none⟩ = false) := Lib.hid (fun W' h => by
        rw [World.frozen?_of_block (h.block w21.heap.size (by simp) (fun e => by have := Option.some.inj e; omega))]; exact FB.out.o3.2.2.2.2.2)
      have HBx := Lib.hid (grP_refl (w21.alloc (.cells #[.int .i64 (k : Int), .string ⟨#[]⟩, .int .i64 0] 47)) (some g))
      refine (SC.out _).mono ?_
      rintro e w24 ⟨rfl, rfl⟩
      go_wp2_with fail
      have WB := Lib.hid (s_want_bad g [41] T22 _ HSx.out (by simp))
      refine WB.out.mono ?_
      rintro e w25 ⟨rfl, ⟨T26, hT26, hpw25⟩, hgw25⟩
      have HGw25 := Lib.hid (grP_trans HGx.out hgw25)
      have HOw25 := Lib.hid (HOx.out.keptG hgw25 hgl)
      have HBw25 := Lib.hid (grP_trans HBx.out hgw25)
      have HSw25 := Lib.hid hpw25
      clear hpw25 hgw25 WB
      obtain ⟨l280, l281, l282⟩ := CX.out _ HBw25.out
      have hsz8 : w.heap.size ≤ w25.heap.size := HGw25.out.size
      have lc : (L16).length ≤ 1000000000 := by (try simp only [List.length_append, List.length_cons, List.length_nil] at *); omega
      go_wp2_with (at_builtin; refine appR rfl _ _ 47 36 (.agg #[.int .i64 0, .string ⟨#[]⟩, .int .i64 0]) 32 info_trmP Tryz.underlying36 rfl (by omega) rfl w.heap.size _ _ _ (L16) (k : Int) [] 0 HOw25.out rfl rfl (HTR.out _ (by omega) (by omega)) lc hsz8 ?_; intro v9 w9 ho9 hg9; have O9 := Lib.hid ho9; have HG9 := Lib.hid (grP_own HGw25.out hg9 (fun q e => (HOw25.out.lt q e).1)); have HS9 := Lib.hid (HSw25.out.grown hg9 (fun q e => by have := (HOw25.out.lt q e).1; omega)); clear ho9 hg9)
      go_ret
      exact retS_bad HG9.out O9.out (by simp) (by (try simp only [List.length_append, List.length_cons, List.length_nil] at *); omega) HS9.out HX2.out
    | ok a18 r19 =>
    obtain ⟨v, rfl, ho, hpn⟩ := hr
    obtain ⟨la18, _, _⟩ := prs_ok f (.chain true) r3 a18 r19 trivial HQ.out.symm
    simp only [accL] at la18
    have HOw15 := Lib.hid (ho.mono HGw2.out.size); have HSw15 := Lib.hid hpn
    have HX2 : Hid (X = ((nd [44] r19).bind fun _ r2 => (prs f (.chain true) r2).bind fun b r3 => PR.ok (a18 ++ b) r3).bind fun c r4 => (PR.ok (0 : Int) r4).bind fun m r6 => (nd [41] r6).bind fun _ r7 => .ok (c ++ [((k : Int), [], m)]) r7) := Lib.hid HX1.out
    clear hgw15 ho hpn
    go_wp2_with fail
    refine (ST.out _).mono ?_
    rintro e w29 ⟨rfl, rfl⟩
    go_wp2_with fail
    cases hn : nd [44] r19 with
    | out => exact absurd hn (nd_in _ _)
    | bad =>
      have HXb : Hid (X = .bad) := Lib.hid (by rw [HX2.out, hn]; rfl)
      have WN := Lib.hid (s_want_no g [44] r19 false _ HSw15.out (nd_head hn (by simp)))
      clear hn
      refine WN.out.mono ?_
      rintro e w30 ⟨rfl, hpw30, hgw30⟩
      have HGw30 := Lib.hid (grP_trans HGw15.out hgw30)
      have HOw30 := Lib.hid (HOw15.out.keptG hgw30 hgl)
      have HSw30 := Lib.hid hpw30
      clear hpw30 hgw30 WN
      obtain ⟨c34a, c34b⟩ := HSw30.out.flag
      go_wp2_with fail
      have HGx := Lib.hid (grP_later HGw30.out ((Later.refl w30).alloc (.cells #[.int .i64 (k : Int), .string ⟨#[]⟩, .int .i64 0] 47)))
      have HOx := Lib.hid (HOw30.out.later ((Later.refl w30).alloc (.cells #[.int .i64 (k : Int), .string ⟨#[]⟩, .int .i64 0] 47)))
      have HSx := Lib.hid (HSw30.out.later ((Later.refl w30).alloc (.cells #[.int .i64 (k : Int), .string ⟨#[]⟩, .int .i64 0] 47)))
      have OWL := Lib.hid (fun q e => (HOw30.out.lt q e).2)
      have FB := Lib.hid (fr_alloc (X := w30) (l := [.int .i64 (k : Int), .string ⟨#[]⟩, .int .i64 0]) (T := 47) (Later.refl _))
      have hgB : g < w30.heap.size := HSw30.out.lt
      have hszB : w.heap.size ≤ w30.heap.size := HGw30.out.size
      have CX : Hid (∀ W', World.grownBy (w30.alloc (.cells #[.int .i64 (k : Int), .string ⟨#[]⟩, .int .i64 0] 47)) W' (some g) → W'.cell? ⟨w30.heap.size, 0, none⟩ = some (.int .i64 (k : Int)) ∧ W'.cell? ⟨w30.heap.size, 1, none⟩ = some (.string ⟨#[]⟩) ∧ W'.cell? ⟨w30.heap.size, 2, none⟩ = some (.int .i64 0)) := Lib.hid (fun W' h => by
        have hne : some w30.heap.size ≠ some g := fun e => by have := Option.some.inj e; omega
        obtain ⟨b0, b1, b2, _⟩ := FB.out.o3
        exact ⟨h.cell b0 hne, h.cell b1 hne, h.cell b2 hne⟩)
      have FX : Hid (∀ W', World.grownBy (w30.alloc (.cells #[.int .i64 (k : Int), .string ⟨#[]⟩, .int .i64 0] 47)) W' (some g) → W'.frozen? ⟨w30.heap.size, 2, none⟩ = false) := Lib.hid (fun W' h => by
        rw [World.frozen?_of_block (h.block w30.heap.size (by simp) (fun e => by have := Option.some.inj e; omega))]; exact FB.out.o3.2.2.2.2.2)
      have HBx := Lib.hid (grP_refl (w30.alloc (.cells #[.int .i64 (k : Int), .string ⟨#[]⟩, .int .i64 0] 47)) (some g))
      refine (SC.out _).mono ?_
      rintro e w35 ⟨rfl, rfl⟩
      go_wp2_with fail
      have WB := Lib.hid (s_want_bad g [41] r19 _ HSx.out (by simp))
      refine WB.out.mono ?_
      rintro e w36 ⟨rfl, ⟨T37, hT37, hpw36⟩, hgw36⟩
      have HGw36 := Lib.hid (grP_trans HGx.out hgw36)
      have HOw36 := Lib.hid (HOx.out.keptG hgw36 hgl)
      have HBw36 := Lib.hid (grP_trans HBx.out hgw36)
      have HSw36 := Lib.hid hpw36
      clear hpw36 hgw36 WB
      obtain ⟨l390, l391, l392⟩ := CX.out _ HBw36.out
      have hsz8 : w.heap.size ≤ w36.heap.size := HGw36.out.size
      have lc : (a18).length ≤ 1000000000 := by (try simp only [List.length_append, List.length_cons, List.length_nil] at *); omega
      go_wp2_with (at_builtin; refine appR rfl _ _ 47 36 (.agg #[.int .i64 0, .string ⟨#[]⟩, .int .i64 0]) 32 info_trmP Tryz.underlying36 rfl (by omega) rfl w.heap.size _ _ _ (a18) (k : Int) [] 0 HOw36.out rfl rfl (HTR.out _ (by omega) (by omega)) lc hsz8 ?_; intro v9 w9 ho9 hg9; have O9 := Lib.hid ho9; have HG9 := Lib.hid (grP_own HGw36.out hg9 (fun q e => (HOw36.out.lt q e).1)); have HS9 := Lib.hid (HSw36.out.grown hg9 (fun q e => by have := (HOw36.out.lt q e).1; omega)); clear ho9 hg9)
      go_ret
      exact retS_bad HG9.out O9.out (by simp) (by (try simp only [List.length_append, List.length_cons, List.length_nil] at *); omega) HS9.out HXb.out
    | ok ur32 r32 =>
    have er32 := nd_ok hn
    have HX33 : Hid (X = ((prs f (.chain true) r32).bind fun b r3 => PR.ok (a18 ++ b) r3).bind fun c r4 => (PR.ok (0 : Int) r4).bind fun m r6 => (nd [41] r6).bind fun _ r7 => .ok (c ++ [((k : Int), [], m)]) r7) := Lib.hid (by rw [HX2.out, hn]; rfl)
    subst er32
    have WY := Lib.hid (s_want_yes g [44] r32 false _ HSw15.out)
    clear hn
    refine WY.out.mono ?_
    rintro e w31 ⟨rfl, hpw31, hgw31⟩
    have HGw31 := Lib.hid (grP_trans HGw15.out hgw31)
    have HOw31 := Lib.hid (HOw15.out.keptG hgw31 hgl)
    have HSw31 := Lib.hid hpw31
    clear hpw31 hgw31 WY
    obtain ⟨c42a, c42b⟩ := HSw31.out.flag
    have hq2 : prs f (.chain true) r32 ≠ .out := by
      intro e
      have h2 := HX33.out
      rw [e] at h2
      exact HNE.out h2
    have LE2 := Lib.hid (HSw31.out.len)
    have CE2 := Lib.hid (fun W h1 => HEX.out r32 W g h1 LE2.out hq2)
    obtain ⟨q41, hqq2⟩ : ∃ q, q = prs f (.chain true) r32 := ⟨_, rfl⟩
    have HQ2 := Lib.hid hqq2
    have HX4 := Lib.hid HX33.out
    rw [← hqq2] at HX4 hq2 CE2
    clear hqq2
    go_wp2_with fail
    refine (CE2.out _ HSw31.out).mono ?_
    rintro e w40 ⟨hgw40, hr⟩
    have HGw40 := Lib.hid (grP_trans HGw31.out hgw40)
    have HVw40 := Lib.hid (HOw31.out.keptG hgw40 hgl)
    have hszw40 : w.heap.size ≤ w40.heap.size := HGw40.out.size
    cases q41 with
    | out => exact absurd rfl hq2
    | bad =>
      obtain ⟨u, L45, T46, rfl, ho, hL, hlL45, hpn⟩ := hr
      have HU := Lib.hid ho; have NEB := Lib.hid hL; have HSn := Lib.hid hpn
      have HX5 : Hid (X = .bad) := Lib.hid HX4.out
      have la1 : (a18).length ≤ 100000000 := by (try simp only [List.length_append, List.length_cons, List.length_nil] at *); omega
      have lb1 : L45.length ≤ 100000000 := by (try simp only [List.length_append, List.length_cons, List.length_nil] at *); omega
      have lab : (a18 ++ L45).length = (a18).length + L45.length := List.length_append
      clear hgw40 ho hL hpn
      go_wp2_with (at_builtin; refine appRS rfl _ _ rfl w.heap.size _ _ a18 L45 _ _ HVw40.out HU.out NEB.out rfl rfl la1 lb1 hszw40 ?_; intro v7 w43 ho7 hg7; have Ow43 := Lib.hid ho7; have HGw43 := Lib.hid (grP_own HGw40.out hg7 (fun q e => (HVw40.out.lt q e).1)); have HSw43 := Lib.hid (HSn.out.grown hg7 (fun q e => by have := (HVw40.out.lt q e).1; omega)); clear ho7 hg7)
      have HGx := Lib.hid (grP_later HGw43.out ((Later.refl w43).alloc (.cells #[.int .i64 (k : Int), .string ⟨#[]⟩, .int .i64 0] 47)))
      have HOx := Lib.hid (Ow43.out.later ((Later.refl w43).alloc (.cells #[.int .i64 (k : Int), .string ⟨#[]⟩, .int .i64 0] 47)))
      have HSx := Lib.hid (HSw43.out.later ((Later.refl w43).alloc (.cells #[.int .i64 (k : Int), .string ⟨#[]⟩, .int .i64 0] 47)))
      have OWL := Lib.hid (fun q e => (Ow43.out.lt q e).2)
      have FB := Lib.hid (fr_alloc (X := w43) (l := [.int .i64 (k : Int), .string ⟨#[]⟩, .int .i64 0]) (T := 47) (Later.refl _))
      have hgB : g < w43.heap.size := HSw43.out.lt
      have hszB : w.heap.size ≤ w43.heap.size := HGw43.out.size
      have CX : Hid (∀ W', World.grownBy (w43.alloc (.cells #[.int .i64 (k : Int), .string ⟨#[]⟩, .int .i64 0] 47)) W' (some g) → W'.cell? ⟨w43.heap.size, 0, none⟩ = some (.int .i64 (k : Int)) ∧ W'.cell? ⟨w43.heap.size, 1, none⟩ = some (.string ⟨#[]⟩) ∧ W'.cell? ⟨w43.heap.size, 2, none⟩ = some (.int .i64 0)) := Lib.hid (fun W' h => by
        have hne : some w43.heap.size ≠ some g := fun e => by have := Option.some.inj e; omega
        obtain ⟨b0, b1, b2, _⟩ := FB.out.o3
        exact ⟨h.cell b0 hne, h.cell b1 hne, h.cell b2 hne⟩)
      have FX : Hid (∀ W', World.grownBy (w43.alloc (.cells #[.int .i64 (k : Int), .string ⟨#[]⟩, .int .i64 0] 47)) W' (some g) → W'.frozen? ⟨w43.heap.size, 2, none⟩ = false) := Lib.hid (fun W' h => by
        rw [World.frozen?_of_block (h.block w43.heap.size (by simp) (fun e => by have := Option.some.inj e; omega))]; exact FB.out.o3.2.2.2.2.2)
      have HBx := Lib.hid (grP_refl (w43.alloc (.cells #[.int .i64 (k : Int), .string ⟨#[]⟩, .int .i64 0] 47)) (some g))
      refine (SC.out _).mono ?_
      rintro e w47 ⟨rfl, rfl⟩
      go_wp2_with fail
      have WB := Lib.hid (s_want_bad g [41] T46 _ HSx.out (by simp))
      refine WB.out.mono ?_
      rintro e w48 ⟨rfl, ⟨T49, hT49, hpw48⟩, hgw48⟩
      have HGw48 := Lib.hid (grP_trans HGx.out hgw48)
      have HOw48 := Lib.hid (HOx.out.keptG hgw48 hgl)
      have HBw48 := Lib.hid (grP_trans HBx.out hgw48)
      have HSw48 := Lib.hid hpw48
      clear hpw48 hgw48 WB
      obtain ⟨l510, l511, l512⟩ := CX.out _ HBw48.out
      have hsz8 : w.heap.size ≤ w48.heap.size := HGw48.out.size
      have lc : (a18 ++ L45).length ≤ 1000000000 := by (try simp only [List.length_append, List.length_cons, List.length_nil] at *); omega
      go_wp2_with (at_builtin; refine appR rfl _ _ 47 36 (.agg #[.int .i64 0, .string ⟨#[]⟩, .int .i64 0]) 32 info_trmP Tryz.underlying36 rfl (by omega) rfl w.heap.size _ _ _ (a18 ++ L45) (k : Int) [] 0 HOw48.out rfl rfl (HTR.out _ (by omega) (by omega)) lc hsz8 ?_; intro v9 w9 ho9 hg9; have O9 := Lib.hid ho9; have HG9 := Lib.hid (grP_own HGw48.out hg9 (fun q e => (HOw48.out.lt q e).1)); have HS9 := Lib.hid (HSw48.out.grown hg9 (fun q e => by have := (HOw48.out.lt q e).1; omega)); clear ho9 hg9)
      go_ret
      exact retS_bad HG9.out O9.out (by simp) (by (try simp only [List.length_append, List.length_cons, List.length_nil] at *); omega) HS9.out HX5.out
    | ok b52 r53 =>
    obtain ⟨u, rfl, ho, hpn⟩ := hr
    obtain ⟨lb52, ob, _⟩ := prs_ok f (.chain true) r32 b52 r53 trivial HQ2.out.symm
    simp only [accL] at lb52
    have HU := Lib.hid ho; have NEB := Lib.hid (one_ne ob); have HSn := Lib.hid hpn
    have HX5 : Hid (X = (PR.ok (0 : Int) r53).bind fun m r6 => (nd [41] r6).bind fun _ r7 => .ok ((a18 ++ b52) ++ [((k : Int), [], m)]) r7) := Lib.hid HX4.out
    have la1 : (a18).length ≤ 100000000 := by (try simp only [List.length_append, List.length_cons, List.length_nil] at *); omega
    have lb1 : b52.length ≤ 100000000 := by (try simp only [List.length_append, List.length_cons, List.length_nil] at *); omega
    have lab : (a18 ++ b52).length = (a18).length + b52.length := List.length_append
    clear hgw40 ho hpn ob
    go_wp2_with (at_builtin; refine appRS rfl _ _ rfl w.heap.size _ _ a18 b52 _ _ HVw40.out HU.out NEB.out rfl rfl la1 lb1 hszw40 ?_; intro v7 w44 ho7 hg7; have Ow44 := Lib.hid ho7; have HGw44 := Lib.hid (grP_own HGw40.out hg7 (fun q e => (HVw40.out.lt q e).1)); have HSw44 := Lib.hid (HSn.out.grown hg7 (fun q e => by have := (HVw40.out.lt q e).1; omega)); clear ho7 hg7)
    have HGx := Lib.hid (grP_later HGw44.out ((Later.refl w44).alloc (.cells #[.int .i64 (k : Int), .string ⟨#[]⟩, .int .i64 0] 47)))
    have HOx := Lib.hid (Ow44.out.later ((Later.refl w44).alloc (.cells #[.int .i64 (k : Int), .string ⟨#[]⟩, .int .i64 0] 47)))
    have HSx := Lib.hid (HSw44.out.later ((Later.refl w44).alloc (.cells #[.int .i64 (k : Int), .string ⟨#[]⟩, .int .i64 0] 47)))
    have OWL := Lib.hid (fun q e => (Ow44.out.lt q e).2)
    have FB := Lib.hid (fr_alloc (X := w44) (l := [.int .i64 (k : Int), .string ⟨#[]⟩, .int .i64 0]) (T := 47) (Later.refl _))
    have hgB : g < w44.heap.size := HSw44.out.lt
    have hszB : w.heap.size ≤ w44.heap.size := HGw44.out.size
    have CX : Hid (∀ W', World.grownBy (w44.alloc (.cells #[.int .i64 (k : Int), .string ⟨#[]⟩, .int .i64 0] 47)) W' (some g) → W'.cell? ⟨w44.heap.size, 0, none⟩ = some (.int .i64 (k : Int)) ∧ W'.cell? ⟨w44.heap.size, 1, none⟩ = some (.string ⟨#[]⟩) ∧ W'.cell? ⟨w44.heap.size, 2, none⟩ = some (.int .i64 0)) := Lib.hid (fun W' h => by
      have hne : some w44.heap.size ≠ some g := fun e => by have := Option.some.inj e; omega
      obtain ⟨b0, b1, b2, _⟩ := FB.out.o3
      exact ⟨h.cell b0 hne, h.cell b1 hne, h.cell b2 hne⟩)
    have FX : Hid (∀ W', World.grownBy (w44.alloc (.cells #[.int .i64 (k : Int), .string ⟨#[]⟩, .int .i64 0] 47)) W' (some g) → W'.frozen? ⟨w44.heap.size, 2, none⟩ = false) := Lib.hid (fun W' h => by
      rw [World.frozen?_of_block (h.block w44.heap.size (by simp) (fun e => by have := Option.some.inj e; omega))]; exact FB.out.o3.2.2.2.2.2)
    have HBx := Lib.hid (grP_refl (w44.alloc (.cells #[.int .i64 (k : Int), .string ⟨#[]⟩, .int .i64 0] 47)) (some g))
    refine (SC.out _).mono ?_
    rintro e w54 ⟨rfl, rfl⟩
    go_wp2_with fail
    have HX55 : Hid (X = (nd [41] r53).bind fun _ r7 => .ok (a18 ++ b52 ++ [((k : Int), [], (0 : Int))]) r7) := Lib.hid HX5.out
    cases hn : nd [41] r53 with
    | out => exact absurd hn (nd_in _ _)
    | bad =>
      have HXb : Hid (X = .bad) := Lib.hid (by rw [HX55.out, hn]; rfl)
      have WN := Lib.hid (s_want_no g [41] r53 false _ HSx.out (nd_head hn (by simp)))
      clear hn
      refine WN.out.mono ?_
      rintro e w56 ⟨rfl, hpw56, hgw56⟩
      have HGw56 := Lib.hid (grP_trans HGx.out hgw56)
      have HOw56 := Lib.hid (HOx.out.keptG hgw56 hgl)
      have HBw56 := Lib.hid (grP_trans HBx.out hgw56)
      have HSw56 := Lib.hid hpw56
      clear hpw56 hgw56 WN
      obtain ⟨l610, l611, l612⟩ := CX.out _ HBw56.out
      have hsz8 : w.heap.size ≤ w56.heap.size := HGw56.out.size
      have lc : (a18 ++ b52).length ≤ 1000000000 := by (try simp only [List.length_append, List.length_cons, List.length_nil] at *); omega
      go_wp2_with (at_builtin; refine appR rfl _ _ 47 36 (.agg #[.int .i64 0, .string ⟨#[]⟩, .int .i64 0]) 32 info_trmP Tryz.underlying36 rfl (by omega) rfl w.heap.size _ _ _ (a18 ++ b52) (k : Int) [] 0 HOw56.out rfl rfl (HTR.out _ (by omega) (by omega)) lc hsz8 ?_; intro v9 w9 ho9 hg9; have O9 := Lib.hid ho9; have HG9 := Lib.hid (grP_own HGw56.out hg9 (fun q e => (HOw56.out.lt q e).1)); have HS9 := Lib.hid (HSw56.out.grown hg9 (fun q e => by have := (HOw56.out.lt q e).1; omega)); clear ho9 hg9)
      go_ret
      exact retS_bad HG9.out O9.out (by simp) (by (try simp only [List.length_append, List.length_cons, List.length_nil] at *); omega) HS9.out HXb.out
    | ok ur58 r58 =>
    have er58 := nd_ok hn
    have HX59 : Hid (X = .ok (a18 ++ b52 ++ [((k : Int), [], 0)]) r58) := Lib.hid (by rw [HX55.out, hn]; rfl)
    subst er58
    have WY := Lib.hid (s_want_yes g [41] r58 false _ HSx.out)
    clear hn
    refine WY.out.mono ?_
    rintro e w57 ⟨rfl, hpw57, hgw57⟩
    have HGw57 := Lib.hid (grP_trans HGx.out hgw57)
    have HOw57 := Lib.hid (HOx.out.keptG hgw57 hgl)
    have HBw57 := Lib.hid (grP_trans HBx.out hgw57)
    have HSw57 := Lib.hid hpw57
    clear hpw57 hgw57 WY
    obtain ⟨l630, l631, l632⟩ := CX.out _ HBw57.out
    have hsz8 : w.heap.size ≤ w57.heap.size := HGw57.out.size
    have lc : (a18 ++ b52).length ≤ 1000000000 := by (try simp only [List.length_append, List.length_cons, List.length_nil] at *); omega
    go_wp2_with (at_builtin; refine appR rfl _ _ 47 36 (.agg #[.int .i64 0, .string ⟨#[]⟩, .int .i64 0]) 32 info_trmP Tryz.underlying36 rfl (by omega) rfl w.heap.size _ _ _ (a18 ++ b52) (k : Int) [] 0 HOw57.out rfl rfl (HTR.out _ (by omega) (by omega)) lc hsz8 ?_; intro v9 w9 ho9 hg9; have O9 := Lib.hid ho9; have HG9 := Lib.hid (grP_own HGw57.out hg9 (fun q e => (HOw57.out.lt q e).1)); have HS9 := Lib.hid (HSw57.out.grown hg9 (fun q e => by have := (HOw57.out.lt q e).1; omega)); clear ho9 hg9)
    go_ret
    exact retS_ok HG9.out O9.out HS9.out HX59.out
  · have HXs := Lib.hid HX0.out
    go_enter Tryz.func157, Tryz.ntmps157
    go_wp2_with fail
    cases hn : nd [40] T with
    | out => exact absurd hn (nd_in _ _)
    | bad =>
      have HXb : Hid (X = .bad) := Lib.hid (by rw [HXs.out, hn]; rfl)
      have WN := Lib.hid (s_want_no g [40] T false _ HPr.out (nd_head hn (by simp)))
      clear hn
      refine WN.out.mono ?_
      rintro e w64 ⟨rfl, hpw64, hgw64⟩
      have HGw64 := Lib.hid (grP_trans HGr.out hgw64)
      have HOw64 := Lib.hid (HOr.out.keptG hgw64 hgl)
      have HSw64 := Lib.hid hpw64
      clear hpw64 hgw64 WN
      go_wp2_with fail
      have CB := Lib.hid (s_Or_bad g T _ HSw64.out)
      refine CB.out.mono ?_
      rintro e w68 ⟨rfl, rfl⟩
      go_wp2_with fail
      refine (ST.out _).mono ?_
      rintro e w69 ⟨rfl, rfl⟩
      go_wp2_with fail
      have WB := Lib.hid (s_want_bad g [44] T _ HSw64.out (by simp))
      refine WB.out.mono ?_
      rintro e w70 ⟨rfl, ⟨T71, hT71, hpw70⟩, hgw70⟩
      have HGw70 := Lib.hid (grP_trans HGw64.out hgw70)
      have HOw70 := Lib.hid (HOw64.out.keptG hgw70 hgl)
      have HSw70 := Lib.hid hpw70
      clear hpw70 hgw70 WB
      obtain ⟨c72a, c72b⟩ := HSw70.out.flag
      go_wp2_with fail
      have HGx := Lib.hid (grP_later HGw70.out ((Later.refl w70).alloc (.cells #[.int .i64 (k : Int), .string ⟨#[]⟩, .int .i64 0] 47)))
      have HOx := Lib.hid (HOw70.out.later ((Later.refl w70).alloc (.cells #[.int .i64 (k : Int), .string ⟨#[]⟩, .int .i64 0] 47)))
      have HSx := Lib.hid (HSw70.out.later ((Later.refl w70).alloc (.cells #[.int .i64 (k : Int), .string ⟨#[]⟩, .int .i64 0] 47)))
      have OWL := Lib.hid (fun q e => (HOw70.out.lt q e).2)
      have FB := Lib.hid (fr_alloc (X := w70) (l := [.int .i64 (k : Int), .string ⟨#[]⟩, .int .i64 0]) (T := 47) (Later.refl _))
      have hgB : g < w70.heap.size := HSw70.out.lt
      have hszB : w.heap.size ≤ w70.heap.size := HGw70.out.size
      have CX : Hid (∀ W', World.grownBy (w70.alloc (.cells #[.int .i64 (k : Int), .string ⟨#[]⟩, .int .i64 0] 47)) W' (some g) → W'.cell? ⟨w70.heap.size, 0, none⟩ = some (.int .i64 (k : Int)) ∧ W'.cell? ⟨w70.heap.size, 1, none⟩ = some (.string ⟨#[]⟩) ∧ W'.cell? ⟨w70.heap.size, 2, none⟩ = some (.int .i64 0)) := Lib.hid (fun W' h => by
        have hne : some w70.heap.size ≠ some g := fun e => by have := Option.some.inj e; omega
        obtain ⟨b0, b1, b2, _⟩ := FB.out.o3
        exact ⟨h.cell b0 hne, h.cell b1 hne, h.cell b2 hne⟩)
      have FX : Hid (∀ W', World.grownBy (w70.alloc (.cells #[.int .i64 (k : Int), .string ⟨#[]⟩, .int .i64 0] 47)) W' (some g) → W'.frozen? ⟨w70.heap.size, 2, none⟩ = false) := Lib.hid (fun W' h => by
        rw [World.frozen?_of_block (h.block w70.heap.size (by simp) (fun e => by have := Option.some.inj e; omega))]; exact FB.out.o3.2.2.2.2.2)
      have HBx := Lib.hid (grP_refl (w70.alloc (.cells #[.int .i64 (k : Int), .string ⟨#[]⟩, .int .i64 0] 47)) (some g))
      refine (SC.out _).mono ?_
      rintro e w73 ⟨rfl, rfl⟩
      go_wp2_with fail
      have WB := Lib.hid (s_want_bad g [44] T71 _ HSx.out (by simp))
      refine WB.out.mono ?_
      rintro e w74 ⟨rfl, ⟨T75, hT75, hpw74⟩, hgw74⟩
      have HGw74 := Lib.hid (grP_trans HGx.out hgw74)
      have HOw74 := Lib.hid (HOx.out.keptG hgw74 hgl)
      have HBw74 := Lib.hid (grP_trans HBx.out hgw74)
      have HSw74 := Lib.hid hpw74
      clear hpw74 hgw74 WB
      go_wp2_with fail
      have WB := Lib.hid (s_wantNumber_bad g T75 _ HSw74.out)
      refine WB.out.mono ?_
      rintro e w76 ⟨⟨m77, rfl, m77a, m77b⟩, ⟨T78, hT78, hpw76⟩, hgw76⟩
      have HGw76 := Lib.hid (grP_trans HGw74.out hgw76)
      have HOw76 := Lib.hid (HOw74.out.keptG hgw76 hgl)
      have HBw76 := Lib.hid (grP_trans HBw74.out hgw76)
      have HSw76 := Lib.hid hpw76
      clear hpw76 hgw76 WB
      obtain ⟨l790, l791, l792⟩ := CX.out _ HBw76.out
      have l79f := FX.out _ HBw76.out
      have HS80 := Lib.hid (HSw76.out.setN (L := w70.heap.size) (j := 2) hgB (.int .i64 m77))
      have HO81 := Lib.hid (HOw76.out.setN (L := w70.heap.size) (j := 2) OWL.out (.int .i64 m77))
      have HG82 := Lib.hid (grP_setN (L := w70.heap.size) (j := 2) HGw76.out hszB (.int .i64 m77))
      have CX : Hid (∀ W', World.grownBy (w76.setCell ⟨w70.heap.size, 2, none⟩ (.int .i64 m77)) W' (some g) → W'.cell? ⟨w70.heap.size, 0, none⟩ = some (.int .i64 (k : Int)) ∧ W'.cell? ⟨w70.heap.size, 1, none⟩ = some (.string ⟨#[]⟩) ∧ W'.cell? ⟨w70.heap.size, 2, none⟩ = some (.int .i64 m77)) := Lib.hid (fun W' h => by
        have hne : some w70.heap.size ≠ some g := fun e => by have := Option.some.inj e; omega
        refine ⟨h.cell ?_ hne, h.cell ?_ hne, h.cell ?_ hne⟩
        · rw [World.cell?_setCell_other _ _ _ _ (fun e2 => by cases e2)]; exact l790
        · rw [World.cell?_setCell_other _ _ _ _ (fun e2 => by cases e2)]; exact l791
        · exact World.cell?_setCell_same _ _ _ l792)
      have HB83 := Lib.hid (grP_refl (w76.setCell ⟨w70.heap.size, 2, none⟩ (.int .i64 m77)) (some g))
      go_wp2_with fail
      have WB := Lib.hid (s_want_bad g [41] T78 _ HS80.out (by simp))
      refine WB.out.mono ?_
      rintro e w84 ⟨rfl, ⟨T85, hT85, hpw84⟩, hgw84⟩
      have HGw84 := Lib.hid (grP_trans HG82.out hgw84)
      have HOw84 := Lib.hid (HO81.out.keptG hgw84 hgl)
      have HBw84 := Lib.hid (grP_trans HB83.out hgw84)
      have HSw84 := Lib.hid hpw84
      clear hpw84 hgw84 WB
      obtain ⟨l870, l871, l872⟩ := CX.out _ HBw84.out
      have hsz8 : w.heap.size ≤ w84.heap.size := HGw84.out.size
      have lc : (([] : List Trm)).length ≤ 1000000000 := by (try simp only [List.length_append, List.length_cons, List.length_nil] at *); omega
      go_wp2_with (at_builtin; refine appR rfl _ _ 47 36 (.agg #[.int .i64 0, .string ⟨#[]⟩, .int .i64 0]) 32 info_trmP Tryz.underlying36 rfl (by omega) rfl w.heap.size _ _ _ (([] : List Trm)) (k : Int) [] m77 HOw84.out rfl rfl (HTR.out _ (by omega) (by omega)) lc hsz8 ?_; intro v9 w9 ho9 hg9; have O9 := Lib.hid ho9; have HG9 := Lib.hid (grP_own HGw84.out hg9 (fun q e => (HOw84.out.lt q e).1)); have HS9 := Lib.hid (HSw84.out.grown hg9 (fun q e => by have := (HOw84.out.lt q e).1; omega)); clear ho9 hg9)
      go_ret
      exact retS_bad HG9.out O9.out (by simp) (by (try simp only [List.length_append, List.length_cons, List.length_nil] at *); omega) HS9.out HXb.out
    | ok ur66 r66 =>
    have er66 := nd_ok hn
    have HX67 : Hid (X = (prs f (.chain true) r66).bind fun a r1 => ((nd [44] r1).bind fun _ r2 => (prs f (.chain true) r2).bind fun b r3 => PR.ok (a ++ b) r3).bind fun c r4 => ((nd [44] r4).bind fun _ r5 => nbr r5).bind fun m r6 => (nd [41] r6).bind fun _ r7 => .ok (c ++ [((k : Int), [], m)]) r7) := Lib.hid (by rw [HXs.out, hn]; rfl)
    subst er66
    have WY := Lib.hid (s_want_yes g [40] r66 false _ HPr.out)
    clear hn
    refine WY.out.mono ?_
    rintro e w65 ⟨rfl, hpw65, hgw65⟩
    have HGw65 := Lib.hid (grP_trans HGr.out hgw65)
    have HOw65 := Lib.hid (HOr.out.keptG hgw65 hgl)
    have HSw65 := Lib.hid hpw65
    clear hpw65 hgw65 WY
    go_wp2_with fail
    have hq : prs f (.chain true) r66 ≠ .out := by
      intro e
      have h2 := HX67.out
      rw [e] at h2
      exact HNE.out h2
    have LE1 := Lib.hid (HSw65.out.len)
    have CE := Lib.hid (fun W h1 => HEX.out r66 W g h1 LE1.out hq)
    obtain ⟨q0, hqq⟩ : ∃ q, q = prs f (.chain true) r66 := ⟨_, rfl⟩
    have HQ := Lib.hid hqq
    have HX1 : Hid (X = (prs f (.chain true) r66).bind _) := Lib.hid HX67.out
    rw [← hqq] at HX1 hq CE
    clear hqq
    refine (CE.out _ HSw65.out).mono ?_
    rintro e w88 ⟨hgw88, hr⟩
    have HGw88 := Lib.hid (grP_trans HGw65.out hgw88)
    cases q0 with
    | out => exact absurd rfl hq
    | bad =>
      obtain ⟨v, L89, T90, rfl, ho, hL, hlL89, hpn⟩ := hr
      have HOw88 := Lib.hid (ho.mono HGw65.out.size); have HSw88 := Lib.hid hpn
      have HX2 : Hid (X = .bad) := Lib.hid HX1.out
      clear hgw88 ho hL hpn
      go_wp2_with fail
      refine (ST.out _).mono ?_
      rintro e w93 ⟨rfl, rfl⟩
      go_wp2_with fail
      have WB := Lib.hid (s_want_bad g [44] T90 _ HSw88.out (by simp))
      refine WB.out.mono ?_
      rintro e w94 ⟨rfl, ⟨T95, hT95, hpw94⟩, hgw94⟩
      have HGw94 := Lib.hid (grP_trans HGw88.out hgw94)
      have HOw94 := Lib.hid (HOw88.out.keptG hgw94 hgl)
      have HSw94 := Lib.hid hpw94
      clear hpw94 hgw94 WB
      obtain ⟨c96a, c96b⟩ := HSw94.out.flag
      go_wp2_with fail
      have HGx := Lib.hid (grP_later HGw94.out ((Later.refl w94).alloc (.cells #[.int .i64 (k : Int), .string ⟨#[]⟩, .int .i64 0] 47)))
      have HOx := Lib.hid (HOw94.out.later ((Later.refl w94).alloc (.cells #[.int .i64 (k : Int), .string ⟨#[]⟩, .int .i64 0] 47)))
      have HSx := Lib.hid (HSw94.out.later ((Later.refl w94).alloc (.cells #[.int .i64 (k : Int), .string ⟨#[]⟩, .int .i64 0] 47)))
      have OWL := Lib.hid (fun q e => (HOw94.out.lt q e).2)
      have FB := Lib.hid (fr_alloc (X := w94) (l := [.int .i64 (k : Int), .string ⟨#[]⟩, .int .i64 0]) (T := 47) (Later.refl _))
      have hgB : g < w94.heap.size := HSw94.out.lt
      have hszB : w.heap.size ≤ w94.heap.size := HGw94.out.size
      have CX : Hid (∀ W', World.grownBy (w94.alloc (.cells #[.int .i64 (k : Int), .string ⟨#[]⟩, .int .i64 0] 47)) W' (some g) → W'.cell? ⟨w94.heap.size, 0, none⟩ = some (.int .i64 (k : Int)) ∧ W'.cell? ⟨w94.heap.size, 1, none⟩ = some (.string ⟨#[]⟩) ∧ W'.cell? ⟨w94.heap.size, 2, none⟩ = some (.int .i64 0)) := Lib.hid (fun W' h => by
        have hne : some w94.heap.size ≠ some g := fun e => by have := Option.some.inj e; omega
        obtain ⟨b0, b1, b2, _⟩ := FB.out.o3
        exact ⟨h.cell b0 hne, h.cell b1 hne, h.cell b2 hne⟩)
      have FX : Hid (∀ W', World.grownBy (w94.alloc (.cells #[.int .i64 (k : Int), .string ⟨#[]⟩, .int .i64 0] 47)) W' (some g) → W'.frozen? ⟨w94.heap.size, 2, none⟩ = false) := Lib.hid (fun W' h => by
        rw [World.frozen?_of_block (h.block w94.heap.size (by simp) (fun e => by have := Option.some.inj e; omega))]; exact FB.out.o3.2.2.2.2.2)
      have HBx := Lib.hid (grP_refl (w94.alloc (.cells #[.int .i64 (k : Int), .string ⟨#[]⟩, .int .i64 0] 47)) (some g))
      refine (SC.out _).mono ?_
      rintro e w97 ⟨rfl, rfl⟩
      go_wp2_with fail
      have WB := Lib.hid (s_want_bad g [44] T95 _ HSx.out (by simp))
      refine WB.out.mono ?_
      rintro e w98 ⟨rfl, ⟨T99, hT99, hpw98⟩, hgw98⟩
      have HGw98 := Lib.hid (grP_trans HGx.out hgw98)
      have HOw98 := Lib.hid (HOx.out.keptG hgw98 hgl)
      have HBw98 := Lib.hid (grP_trans HBx.out hgw98)
      have HSw98 := Lib.hid hpw98
      clear hpw98 hgw98 WB
      go_wp2_with fail
      have WB := Lib.hid (s_wantNumber_bad g T99 _ HSw98.out)
      refine WB.out.mono ?_
      rintro e w100 ⟨⟨m101, rfl, m101a, m101b⟩, ⟨T102, hT102, hpw100⟩, hgw100⟩
      have HGw100 := Lib.hid (grP_trans HGw98.out hgw100)
      have HOw100 := Lib.hid (HOw98.out.keptG hgw100 hgl)
      have HBw100 := Lib.hid (grP_trans HBw98.out hgw100)
      have HSw100 := Lib.hid hpw100
      clear hpw100 hgw100 WB
      obtain ⟨l1030, l1031, l1032⟩ := CX.out _ HBw100.out
      have l103f := FX.out _ HBw100.out
      have HS104 := Lib.hid (HSw100.out.setN (L := w94.heap.size) (j := 2) hgB (.int .i64 m101))
      have HO105 := Lib.hid (HOw100.out.setN (L := w94.heap.size) (j := 2) OWL.out (.int .i64 m101))
      have HG106 := Lib.hid (grP_setN (L := w94.heap.size) (j := 2) HGw100.out hszB (.int .i64 m101))
      have CX : Hid (∀ W', World.grownBy (w100.setCell ⟨w94.heap.size, 2, none⟩ (.int .i64 m101)) W' (some g) → W'.cell? ⟨w94.heap.size, 0, none⟩ = some (.int .i64 (k : Int)) ∧ W'.cell? ⟨w94.heap.size, 1, none⟩ = some (.string ⟨#[]⟩) ∧ W'.cell? ⟨w94.heap.size, 2, none⟩ = some (.int .i64 m101)) := Lib.hid (fun W' h => by
        have hne : some w94.heap.size ≠ some g := fun e => by have := Option.some.inj e; omega
        refine ⟨h.cell ?_ hne, h.cell ?_ hne, h.cell ?_ hne⟩
        · rw [World.cell?_setCell_other _ _ _ _ (fun e2 => by cases e2)]; exact l1030
        · rw [World.cell?_setCell_other _ _ _ _ (fun e2 => by cases e2)]; exact l1031
        · exact World.cell?_setCell_same _ _ _ l1032)
      have HB107 := Lib.hid (grP_refl (w100.setCell ⟨w94.heap.size, 2, none⟩ (.int .i64 m101)) (some g))
      go_wp2_with fail
      have WB := Lib.hid (s_want_bad g [41] T102 _ HS104.out (by simp))
      refine WB.out.mono ?_
      rintro e w108 ⟨rfl, ⟨T109, hT109, hpw108⟩, hgw108⟩
      have HGw108 := Lib.hid (grP_trans HG106.out hgw108)
      have HOw108 := Lib.hid (HO105.out.keptG hgw108 hgl)
      have HBw108 := Lib.hid (grP_trans HB107.out hgw108)
      have HSw108 := Lib.hid hpw108
      clear hpw108 hgw108 WB
      obtain ⟨l1110, l1111, l1112⟩ := CX.out _ HBw108.out
      have hsz8 : w.heap.size ≤ w108.heap.size := HGw108.out.size
      have lc : (L89).length ≤ 1000000000 := by (try simp only [List.length_append, List.length_cons, List.length_nil] at *); omega
      go_wp2_with (at_builtin; refine appR rfl _ _ 47 36 (.agg #[.int .i64 0, .string ⟨#[]⟩, .int .i64 0]) 32 info_trmP Tryz.underlying36 rfl (by omega) rfl w.heap.size _ _ _ (L89) (k : Int) [] m101 HOw108.out rfl rfl (HTR.out _ (by omega) (by omega)) lc hsz8 ?_; intro v9 w9 ho9 hg9; have O9 := Lib.hid ho9; have HG9 := Lib.hid (grP_own HGw108.out hg9 (fun q e => (HOw108.out.lt q e).1)); have HS9 := Lib.hid (HSw108.out.grown hg9 (fun q e => by have := (HOw108.out.lt q e).1; omega)); clear ho9 hg9)
      go_ret
      exact retS_bad HG9.out O9.out (by simp) (by (try simp only [List.length_append, List.length_cons, List.length_nil] at *); omega) HS9.out HX2.out
    | ok a91 r92 =>
    obtain ⟨v, rfl, ho, hpn⟩ := hr
    obtain ⟨la91, _, _⟩ := prs_ok f (.chain true) r66 a91 r92 trivial HQ.out.symm
    simp only [accL] at la91
    have HOw88 := Lib.hid (ho.mono HGw65.out.size); have HSw88 := Lib.hid hpn
    have HX2 : Hid (X = ((nd [44] r92).bind fun _ r2 => (prs f (.chain true) r2).bind fun b r3 => PR.ok (a91 ++ b) r3).bind fun c r4 => ((nd [44] r4).bind fun _ r5 => nbr r5).bind fun m r6 => (nd [41] r6).bind fun _ r7 => .ok (c ++ [((k : Int), [], m)]) r7) := Lib.hid HX1.out
    clear hgw88 ho hpn
    go_wp2_with fail
    refine (ST.out _).mono ?_
    rintro e w112 ⟨rfl, rfl⟩
    go_wp2_with fail
    cases hn : nd [44] r92 with
    | out => exact absurd hn (nd_in _ _)
    | bad =>
      have HXb : Hid (X = .bad) := Lib.hid (by rw [HX2.out, hn]; rfl)
      have WN := Lib.hid (s_want_no g [44] r92 false _ HSw88.out (nd_head hn (by simp)))
      clear hn
      refine WN.out.mono ?_
      rintro e w113 ⟨rfl, hpw113, hgw113⟩
      have HGw113 := Lib.hid (grP_trans HGw88.out hgw113)
      have HOw113 := Lib.hid (HOw88.out.keptG hgw113 hgl)
      have HSw113 := Lib.hid hpw113
      clear hpw113 hgw113 WN
      obtain ⟨c117a, c117b⟩ := HSw113.out.flag
      go_wp2_with fail
      have HGx := Lib.hid (grP_later HGw113.out ((Later.refl w113).alloc (.cells #[.int .i64 (k : Int), .string ⟨#[]⟩, .int .i64 0] 47)))
      have HOx := Lib.hid (HOw113.out.later ((Later.refl w113).alloc (.cells #[.int .i64 (k : Int), .string ⟨#[]⟩, .int .i64 0] 47)))
      have HSx := Lib.hid (HSw113.out.later ((Later.refl w113).alloc (.cells #[.int .i64 (k : Int), .string ⟨#[]⟩, .int .i64 0] 47)))
      have OWL := Lib.hid (fun q e => (HOw113.out.lt q e).2)
      have FB := Lib.hid (fr_alloc (X := w113) (l := [.int .i64 (k : Int), .string ⟨#[]⟩, .int .i64 0]) (T := 47) (Later.refl _))
      have hgB : g < w113.heap.size := HSw113.out.lt
      have hszB : w.heap.size ≤ w113.heap.size := HGw113.out.size
      have CX : Hid (∀ W', World.grownBy (w113.alloc (.cells #[.int .i64 (k : Int), .string ⟨#[]⟩, .int .i64 0] 47)) W' (some g) → W'.cell? ⟨w113.heap.size, 0, none⟩ = some (.int .i64 (k : Int)) ∧ W'.cell? ⟨w113.heap.size, 1, none⟩ = some (.string ⟨#[]⟩) ∧ W'.cell? ⟨w113.heap.size, 2, none⟩ = some (.int .i64 0)) := Lib.hid (fun W' h => by
        have hne : some w113.heap.size ≠ some g := fun e => by have := Option.some.inj e; omega
        obtain ⟨b0, b1, b2, _⟩ := FB.out.o3
        exact ⟨h.cell b0 hne, h.cell b1 hne, h.cell b2 hne⟩)
      have FX : Hid (∀ W', World.grownBy (w113.alloc (.cells #[.int .i64 (k : Int), .string ⟨#[]⟩, .int .i64 0] 47)) W' (some g) → W'.frozen? ⟨w113.heap.size, 2, none⟩ = false) := Lib.hid (fun W' h => by
        rw [World.frozen?_of_block (h.block w113.heap.size (by simp) (fun e => by have := Option.some.inj e; omega))]; exact FB.out.o3.2.2.2.2.2)
      have HBx := Lib.hid (grP_refl (w113.alloc (.cells #[.int .i64 (k : Int), .string ⟨#[]⟩, .int .i64 0] 47)) (some g))
      refine (SC.out _).mono ?_
      rintro e w118 ⟨rfl, rfl⟩
      go_wp2_with fail
      have WB := Lib.hid (s_want_bad g [44] r92 _ HSx.out (by simp))
      refine WB.out.mono ?_
      rintro e w119 ⟨rfl, ⟨T120, hT120, hpw119⟩, hgw119⟩
      have HGw119 := Lib.hid (grP_trans HGx.out hgw119)
      have HOw119 := Lib.hid (HOx.out.keptG hgw119 hgl)
      have HBw119 := Lib.hid (grP_trans HBx.out hgw119)
      have HSw119 := Lib.hid hpw119
      clear hpw119 hgw119 WB
      go_wp2_with fail
      have WB := Lib.hid (s_wantNumber_bad g T120 _ HSw119.out)
      refine WB.out.mono ?_
      rintro e w121 ⟨⟨m122, rfl, m122a, m122b⟩, ⟨T123, hT123, hpw121⟩, hgw121⟩
      have HGw121 := Lib.hid (grP_trans HGw119.out hgw121)
      have HOw121 := Lib.hid (HOw119.out.keptG hgw121 hgl)
      have HBw121 := Lib.hid (grP_trans HBw119.out hgw121)
      have HSw121 := Lib.hid hpw121
      clear hpw121 hgw121 WB
      obtain ⟨l1240, l1241, l1242⟩ := CX.out _ HBw121.out
      have l124f := FX.out _ HBw121.out
      have HS125 := Lib.hid (HSw121.out.setN (L := w113.heap.size) (j := 2) hgB (.int .i64 m122))
      have HO126 := Lib.hid (HOw121.out.setN (L := w113.heap.size) (j := 2) OWL.out (.int .i64 m122))
      have HG127 := Lib.hid (grP_setN (L := w113.heap.size) (j := 2) HGw121.out hszB (.int .i64 m122))
      have CX : Hid (∀ W', World.grownBy (w121.setCell ⟨w113.heap.size, 2, none⟩ (.int .i64 m122)) W' (some g) → W'.cell? ⟨w113.heap.size, 0, none⟩ = some (.int .i64 (k : Int)) ∧ W'.cell? ⟨w113.heap.size, 1, none⟩ = some (.string ⟨#[]⟩) ∧ W'.cell? ⟨w113.heap.size, 2, none⟩ = some (.int .i64 m122)) := Lib.hid (fun W' h => by
        have hne : some w113.heap.size ≠ some g := fun e => by have := Option.some.inj e; omega
        refine ⟨h.cell ?_ hne, h.cell ?_ hne, h.cell ?_ hne⟩
        · rw [World.cell?_setCell_other _ _ _ _ (fun e2 => by cases e2)]; exact l1240
        · rw [World.cell?_setCell_other _ _ _ _ (fun e2 => by cases e2)]; exact l1241
        · exact World.cell?_setCell_same _ _ _ l1242)
      have HB128 := Lib.hid (grP_refl (w121.setCell ⟨w113.heap.size, 2, none⟩ (.int .i64 m122)) (some g))
      go_wp2_with fail
      have WB := Lib.hid (s_want_bad g [41] T123 _ HS125.out (by simp))
      refine WB.out.mono ?_
      rintro e w129 ⟨rfl, ⟨T130, hT130, hpw129⟩, hgw129⟩
      have HGw129 := Lib.hid (grP_trans HG127.out hgw129)
      have HOw129 := Lib.hid (HO126.out.keptG hgw129 hgl)
      have HBw129 := Lib.hid (grP_trans HB128.out hgw129)
      have HSw129 := Lib.hid hpw129
      clear hpw129 hgw129 WB
      obtain ⟨l1320, l1321, l1322⟩ := CX.out _ HBw129.out
      have hsz8 : w.heap.size ≤ w129.heap.size := HGw129.out.size
      have lc : (a91).length ≤ 1000000000 := by (try simp only [List.length_append, List.length_cons, List.length_nil] at *); omega
      go_wp2_with (at_builtin; refine appR rfl _ _ 47 36 (.agg #[.int .i64 0, .string ⟨#[]⟩, .int .i64 0]) 32 info_trmP Tryz.underlying36 rfl (by omega) rfl w.heap.size _ _ _ (a91) (k : Int) [] m122 HOw129.out rfl rfl (HTR.out _ (by omega) (by omega)) lc hsz8 ?_; intro v9 w9 ho9 hg9; have O9 := Lib.hid ho9; have HG9 := Lib.hid (grP_own HGw129.out hg9 (fun q e => (HOw129.out.lt q e).1)); have HS9 := Lib.hid (HSw129.out.grown hg9 (fun q e => by have := (HOw129.out.lt q e).1; omega)); clear ho9 hg9)
      go_ret
      exact retS_bad HG9.out O9.out (by simp) (by (try simp only [List.length_append, List.length_cons, List.length_nil] at *); omega) HS9.out HXb.out
    | ok ur115 r115 =>
    have er115 := nd_ok hn
    have HX116 : Hid (X = ((prs f (.chain true) r115).bind fun b r3 => PR.ok (a91 ++ b) r3).bind fun c r4 => ((nd [44] r4).bind fun _ r5 => nbr r5).bind fun m r6 => (nd [41] r6).bind fun _ r7 => .ok (c ++ [((k : Int), [], m)]) r7) := Lib.hid (by rw [HX2.out, hn]; rfl)
    subst er115
    have WY := Lib.hid (s_want_yes g [44] r115 false _ HSw88.out)
    clear hn
    refine WY.out.mono ?_
    rintro e w114 ⟨rfl, hpw114, hgw114⟩
    have HGw114 := Lib.hid (grP_trans HGw88.out hgw114)
    have HOw114 := Lib.hid (HOw88.out.keptG hgw114 hgl)
    have HSw114 := Lib.hid hpw114
    clear hpw114 hgw114 WY
    obtain ⟨c135a, c135b⟩ := HSw114.out.flag
    have hq2 : prs f (.chain true) r115 ≠ .out := by
      intro e
      have h2 := HX116.out
      rw [e] at h2
      exact HNE.out h2
    have LE2 := Lib.hid (HSw114.out.len)
    have CE2 := Lib.hid (fun W h1 => HEX.out r115 W g h1 LE2.out hq2)
    obtain ⟨q134, hqq2⟩ : ∃ q, q = prs f (.chain true) r115 := ⟨_, rfl⟩
    have HQ2 := Lib.hid hqq2
    have HX4 := Lib.hid HX116.out
    rw [← hqq2] at HX4 hq2 CE2
    clear hqq2
    go_wp2_with fail
    refine (CE2.out _ HSw114.out).mono ?_
    rintro e w133 ⟨hgw133, hr⟩
    have HGw133 := Lib.hid (grP_trans HGw114.out hgw133)
    have HVw133 := Lib.hid (HOw114.out.keptG hgw133 hgl)
    have hszw133 : w.heap.size ≤ w133.heap.size := HGw133.out.size
    cases q134 with
    | out => exact absurd rfl hq2
    | bad =>
      obtain ⟨u, L138, T139, rfl, ho, hL, hlL138, hpn⟩ := hr
      have HU := Lib.hid ho; have NEB := Lib.hid hL; have HSn := Lib.hid hpn
      have HX5 : Hid (X = .bad) := Lib.hid HX4.out
      have la1 : (a91).length ≤ 100000000 := by (try simp only [List.length_append, List.length_cons, List.length_nil] at *); omega
      have lb1 : L138.length ≤ 100000000 := by (try simp only [List.length_append, List.length_cons, List.length_nil] at *); omega
      have lab : (a91 ++ L138).length = (a91).length + L138.length := List.length_append
      clear hgw133 ho hL hpn
      go_wp2_with (at_builtin; refine appRS rfl _ _ rfl w.heap.size _ _ a91 L138 _ _ HVw133.out HU.out NEB.out rfl rfl la1 lb1 hszw133 ?_; intro v7 w136 ho7 hg7; have Ow136 := Lib.hid ho7; have HGw136 := Lib.hid (grP_own HGw133.out hg7 (fun q e => (HVw133.out.lt q e).1)); have HSw136 := Lib.hid (HSn.out.grown hg7 (fun q e => by have := (HVw133.out.lt q e).1; omega)); clear ho7 hg7)
      have HGx := Lib.hid (grP_later HGw136.out ((Later.refl w136).alloc (.cells #[.int .i64 (k : Int), .string ⟨#[]⟩, .int .i64 0] 47)))
      have HOx := Lib.hid (Ow136.out.later ((Later.refl w136).alloc (.cells #[.int .i64 (k : Int), .string ⟨#[]⟩, .int .i64 0] 47)))
      have HSx := Lib.hid (HSw136.out.later ((Later.refl w136).alloc (.cells #[.int .i64 (k : Int), .string ⟨#[]⟩, .int .i64 0] 47)))
      have OWL := Lib.hid (fun q e => (Ow136.out.lt q e).2)
      have FB := Lib.hid (fr_alloc (X := w136) (l := [.int .i64 (k : Int), .string ⟨#[]⟩, .int .i64 0]) (T := 47) (Later.refl _))
      have hgB : g < w136.heap.size := HSw136.out.lt
      have hszB : w.heap.size ≤ w136.heap.size := HGw136.out.size
      have CX : Hid (∀ W', World.grownBy (w136.alloc (.cells #[.int .i64 (k : Int), .string ⟨#[]⟩, .int .i64 0] 47)) W' (some g) → W'.cell? ⟨w136.heap.size, 0, none⟩ = some (.int .i64 (k : Int)) ∧ W'.cell? ⟨w136.heap.size, 1, none⟩ = some (.string ⟨#[]⟩) ∧ W'.cell? ⟨w136.heap.size, 2, none⟩ = some (.int .i64 0)) := Lib.hid (fun W' h => by
        have hne : some w136.heap.size ≠ some g := fun e => by have := Option.some.inj e; omega
        obtain ⟨b0, b1, b2, _⟩ := FB.out.o3
        exact ⟨h.cell b0 hne, h.cell b1 hne, h.cell b2 hne⟩)
      have FX : Hid (∀ W', World.grownBy (w136.alloc (.cells #[.int .i64 (k : Int), .string ⟨#[]⟩, .int .i64 0] 47)) W' (some g) → W'.frozen? ⟨w136.heap.size, 2, none⟩ = false) := Lib.hid (fun W' h => by
        rw [World.frozen?_of_block (h.block w136.heap.size (by simp) (fun e => by have := Option.some.inj e; omega))]; exact FB.out.o3.2.2.2.2.2)
      have HBx := Lib.hid (grP_refl (w136.alloc (.cells #[.int .i64 (k : Int), .string ⟨#[]⟩, .int .i64 0] 47)) (some g))
      refine (SC.out _).mono ?_
      rintro e w140 ⟨rfl, rfl⟩
      go_wp2_with fail
      have WB := Lib.hid (s_want_bad g [44] T139 _ HSx.out (by simp))
      refine WB.out.mono ?_
      rintro e w141 ⟨rfl, ⟨T142, hT142, hpw141⟩, hgw141⟩
      have HGw141 := Lib.hid (grP_trans HGx.out hgw141)
      have HOw141 := Lib.hid (HOx.out.keptG hgw141 hgl)
      have HBw141 := Lib.hid (grP_trans HBx.out hgw141)
      have HSw141 := Lib.hid hpw141
      clear hpw141 hgw141 WB
      go_wp2_with fail
      have WB := Lib.hid (s_wantNumber_bad g T142 _ HSw141.out)
      refine WB.out.mono ?_
      rintro e w143 ⟨⟨m144, rfl, m144a, m144b⟩, ⟨T145, hT145, hpw143⟩, hgw143⟩
      have HGw143 := Lib.hid (grP_trans HGw141.out hgw143)
      have HOw143 := Lib.hid (HOw141.out.keptG hgw143 hgl)
      have HBw143 := Lib.hid (grP_trans HBw141.out hgw143)
      have HSw143 := Lib.hid hpw143
      clear hpw143 hgw143 WB
      obtain ⟨l1460, l1461, l1462⟩ := CX.out _ HBw143.out
      have l146f := FX.out _ HBw143.out
      have HS147 := Lib.hid (HSw143.out.setN (L := w136.heap.size) (j := 2) hgB (.int .i64 m144))
      have HO148 := Lib.hid (HOw143.out.setN (L := w136.heap.size) (j := 2) OWL.out (.int .i64 m144))
      have HG149 := Lib.hid (grP_setN (L := w136.heap.size) (j := 2) HGw143.out hszB (.int .i64 m144))
      have CX : Hid (∀ W', World.grownBy (w143.setCell ⟨w136.heap.size, 2, none⟩ (.int .i64 m144)) W' (some g) → W'.cell? ⟨w136.heap.size, 0, none⟩ = some (.int .i64 (k : Int)) ∧ W'.cell? ⟨w136.heap.size, 1, none⟩ = some (.string ⟨#[]⟩) ∧ W'.cell? ⟨w136.heap.size, 2, none⟩ = some (.int .i64 m144)) := Lib.hid (fun W' h => by
        have hne : some w136.heap.size ≠ some g := fun e => by have := Option.some.inj e; omega
        refine ⟨h.cell ?_ hne, h.cell ?_ hne, h.cell ?_ hne⟩
        · rw [World.cell?_setCell_other _ _ _ _ (fun e2 => by cases e2)]; exact l1460
        · rw [World.cell?_setCell_other _ _ _ _ (fun e2 => by cases e2)]; exact l1461
        · exact World.cell?_setCell_same _ _ _ l1462)
      have HB150 := Lib.hid (grP_refl (w143.setCell ⟨w136.heap.size, 2, none⟩ (.int .i64 m144)) (some g))
      go_wp2_with fail
      have WB := Lib.hid (s_want_bad g [41] T145 _ HS147.out (by simp))
      refine WB.out.mono ?_
      rintro e w151 ⟨rfl, ⟨T152, hT152, hpw151⟩, hgw151⟩
      have HGw151 := Lib.hid (grP_trans HG149.out hgw151)
      have HOw151 := Lib.hid (HO148.out.keptG hgw151 hgl)
      have HBw151 := Lib.hid (grP_trans HB150.out hgw151)
      have HSw151 := Lib.hid hpw151
      clear hpw151 hgw151 WB
      obtain ⟨l1540, l1541, l1542⟩ := CX.out _ HBw151.out
      have hsz8 : w.heap.size ≤ w151.heap.size := HGw151.out.size
      have lc : (a91 ++ L138).length ≤ 1000000000 := by (try simp only [List.length_append, List.length_cons, List.length_nil] at *); omega
      go_wp2_with (at_builtin; refine appR rfl _ _ 47 36 (.agg #[.int .i64 0, .string ⟨#[]⟩, .int .i64 0]) 32 info_trmP Tryz.underlying36 rfl (by omega) rfl w.heap.size _ _ _ (a91 ++ L138) (k : Int) [] m144 HOw151.out rfl rfl (HTR.out _ (by omega) (by omega)) lc hsz8 ?_; intro v9 w9 ho9 hg9; have O9 := Lib.hid ho9; have HG9 := Lib.hid (grP_own HGw151.out hg9 (fun q e => (HOw151.out.lt q e).1)); have HS9 := Lib.hid (HSw151.out.grown hg9 (fun q e => by have := (HOw151.out.lt q e).1; omega)); clear ho9 hg9)
      go_ret
      exact retS_bad HG9.out O9.out (by simp) (by (try simp only [List.length_append, List.length_cons, List.length_nil] at *); omega) HS9.out HX5.out
    | ok b155 r156 =>
    obtain ⟨u, rfl, ho, hpn⟩ := hr
    obtain ⟨lb155, ob, _⟩ := prs_ok f (.chain true) r115 b155 r156 trivial HQ2.out.symm
    simp only [accL] at lb155
    have HU := Lib.hid ho; have NEB := Lib.hid (one_ne ob); have HSn := Lib.hid hpn
    have HX5 : Hid (X = ((nd [44] r156).bind fun _ r5 => nbr r5).bind fun m r6 => (nd [41] r6).bind fun _ r7 => .ok ((a91 ++ b155) ++ [((k : Int), [], m)]) r7) := Lib.hid HX4.out
    have la1 : (a91).length ≤ 100000000 := by (try simp only [List.length_append, List.length_cons, List.length_nil] at *); omega
    have lb1 : b155.length ≤ 100000000 := by (try simp only [List.length_append, List.length_cons, List.length_nil] at *); omega
    have lab : (a91 ++ b155).length = (a91).length + b155.length := List.length_append
    clear hgw133 ho hpn ob
    go_wp2_with (at_builtin; refine appRS rfl _ _ rfl w.heap.size _ _ a91 b155 _ _ HVw133.out HU.out NEB.out rfl rfl la1 lb1 hszw133 ?_; intro v7 w137 ho7 hg7; have Ow137 := Lib.hid ho7; have HGw137 := Lib.hid (grP_own HGw133.out hg7 (fun q e => (HVw133.out.lt q e).1)); have HSw137 := Lib.hid (HSn.out.grown hg7 (fun q e => by have := (HVw133.out.lt q e).1; omega)); clear ho7 hg7)
    have HGx := Lib.hid (grP_later HGw137.out ((Later.refl w137).alloc (.cells #[.int .i64 (k : Int), .string ⟨#[]⟩, .int .i64 0] 47)))
    have HOx := Lib.hid (Ow137.out.later ((Later.refl w137).alloc (.cells #[.int .i64 (k : Int), .string ⟨#[]⟩, .int .i64 0] 47)))
    have HSx := Lib.hid (HSw137.out.later ((Later.refl w137).alloc (.cells #[.int .i64 (k : Int), .string ⟨#[]⟩, .int .i64 0] 47)))
    have OWL := Lib.hid (fun q e => (Ow137.out.lt q e).2)
    have FB := Lib.hid (fr_alloc (X := w137) (l := [.int .i64 (k : Int), .string ⟨#[]⟩, .int .i64 0]) (T := 47) (Later.refl _))
    have hgB : g < w137.heap.size := HSw137.out.lt
    have hszB : w.heap.size ≤ w137.heap.size := HGw137.out.size
    have CX : Hid (∀ W', World.grownBy (w137.alloc (.cells #[.int .i64 (k : Int), .string ⟨#[]⟩, .int .i64 0] 47)) W' (some g) → W'.cell? ⟨w137.heap.size, 0, none⟩ = some (.int .i64 (k : Int)) ∧ W'.cell? ⟨w137.heap.size, 1, none⟩ = some (.string ⟨#[]⟩) ∧ W'.cell? ⟨w137.heap.size, 2, none⟩ = some (.int .i64 0)) := Lib.hid (fun W' h => by
      have hne : some w137.heap.size ≠ some g := fun e => by have := Option.some.inj e; omega
      obtain ⟨b0, b1, b2, _⟩ := FB.out.o3
      exact ⟨h.cell b0 hne, h.cell b1 hne, h.cell b2 hne⟩)
    have FX : Hid (∀ W', World.grownBy (w137.alloc (.cells #[.int .i64 (k : Int), .string ⟨#[]⟩, .int .i64 0] 47)) W' (some g) → W'.frozen? ⟨w137.heap.size, 2, none⟩ = false) := Lib.hid (fun W' h => by
      rw [World.frozen?_of_block (h.block w137.heap.size (by simp) (fun e => by have := Option.some.inj e; omega))]; exact FB.out.o3.2.2.2.2.2)
    have HBx := Lib.hid (grP_refl (w137.alloc (.cells #[.int .i64 (k : Int), .string ⟨#[]⟩, .int .i64 0] 47)) (some g))
    refine (SC.out _).mono ?_
    rintro e w157 ⟨rfl, rfl⟩
    go_wp2_with fail
    have HX158 : Hid (X = ((nd [44] r156).bind fun _ r5 => nbr r5).bind fun m r6 => (nd [41] r6).bind fun _ r7 => .ok (a91 ++ b155 ++ [((k : Int), [], m)]) r7) := Lib.hid HX5.out
    cases hn : nd [44] r156 with
    | out => exact absurd hn (nd_in _ _)
    | bad =>
      have HXb : Hid (X = .bad) := Lib.hid (by rw [HX158.out, hn]; rfl)
      have WN := Lib.hid (s_want_no g [44] r156 false _ HSx.out (nd_head hn (by simp)))
      clear hn
      refine WN.out.mono ?_
      rintro e w159 ⟨rfl, hpw159, hgw159⟩
      have HGw159 := Lib.hid (grP_trans HGx.out hgw159)
      have HOw159 := Lib.hid (HOx.out.keptG hgw159 hgl)
      have HBw159 := Lib.hid (grP_trans HBx.out hgw159)
      have HSw159 := Lib.hid hpw159
      clear hpw159 hgw159 WN
      go_wp2_with fail
      have WB := Lib.hid (s_wantNumber_bad g r156 _ HSw159.out)
      refine WB.out.mono ?_
      rintro e w163 ⟨⟨m164, rfl, m164a, m164b⟩, ⟨T165, hT165, hpw163⟩, hgw163⟩
      have HGw163 := Lib.hid (grP_trans HGw159.out hgw163)
      have HOw163 := Lib.hid (HOw159.out.keptG hgw163 hgl)
      have HBw163 := Lib.hid (grP_trans HBw159.out hgw163)
      have HSw163 := Lib.hid hpw163
      clear hpw163 hgw163 WB
      obtain ⟨l1660, l1661, l1662⟩ := CX.out _ HBw163.out
      have l166f := FX.out _ HBw163.out
      have HS167 := Lib.hid (HSw163.out.setN (L := w137.heap.size) (j := 2) hgB (.int .i64 m164))
      have HO168 := Lib.hid (HOw163.out.setN (L := w137.heap.size) (j := 2) OWL.out (.int .i64 m164))
      have HG169 := Lib.hid (grP_setN (L := w137.heap.size) (j := 2) HGw163.out hszB (.int .i64 m164))
      have CX : Hid (∀ W', World.grownBy (w163.setCell ⟨w137.heap.size, 2, none⟩ (.int .i64 m164)) W' (some g) → W'.cell? ⟨w137.heap.size, 0, none⟩ = some (.int .i64 (k : Int)) ∧ W'.cell? ⟨w137.heap.size, 1, none⟩ = some (.string ⟨#[]⟩) ∧ W'.cell? ⟨w137.heap.size, 2, none⟩ = some (.int .i64 m164)) := Lib.hid (fun W' h => by
        have hne : some w137.heap.size ≠ some g := fun e => by have := Option.some.inj e; omega
        refine ⟨h.cell ?_ hne, h.cell ?_ hne, h.cell ?_ hne⟩
        · rw [World.cell?_setCell_other _ _ _ _ (fun e2 => by cases e2)]; exact l1660
        · rw [World.cell?_setCell_other _ _ _ _ (fun e2 => by cases e2)]; exact l1661
        · exact World.cell?_setCell_same _ _ _ l1662)
      have HB170 := Lib.hid (grP_refl (w163.setCell ⟨w137.heap.size, 2, none⟩ (.int .i64 m164)) (some g))
      go_wp2_with fail
      have WB := Lib.hid (s_want_bad g [41] T165 _ HS167.out (by simp))
      refine WB.out.mono ?_
      rintro e w171 ⟨rfl, ⟨T172, hT172, hpw171⟩, hgw171⟩
      have HGw171 := Lib.hid (grP_trans HG169.out hgw171)
      have HOw171 := Lib.hid (HO168.out.keptG hgw171 hgl)
      have HBw171 := Lib.hid (grP_trans HB170.out hgw171)
      have HSw171 := Lib.hid hpw171
      clear hpw171 hgw171 WB
      obtain ⟨l1740, l1741, l1742⟩ := CX.out _ HBw171.out
      have hsz8 : w.heap.size ≤ w171.heap.size := HGw171.out.size
      have lc : (a91 ++ b155).length ≤ 1000000000 := by (try simp only [List.length_append, List.length_cons, List.length_nil] at *); omega
      go_wp2_with (at_builtin; refine appR rfl _ _ 47 36 (.agg #[.int .i64 0, .string ⟨#[]⟩, .int .i64 0]) 32 info_trmP Tryz.underlying36 rfl (by omega) rfl w.heap.size _ _ _ (a91 ++ b155) (k : Int) [] m164 HOw171.out rfl rfl (HTR.out _ (by omega) (by omega)) lc hsz8 ?_; intro v9 w9 ho9 hg9; have O9 := Lib.hid ho9; have HG9 := Lib.hid (grP_own HGw171.out hg9 (fun q e => (HOw171.out.lt q e).1)); have HS9 := Lib.hid (HSw171.out.grown hg9 (fun q e => by have := (HOw171.out.lt q e).1; omega)); clear ho9 hg9)
      go_ret
      exact retS_bad HG9.out O9.out (by simp) (by (try simp only [List.length_append, List.length_cons, List.length_nil] at *); omega) HS9.out HXb.out
    | ok ur161 r161 =>
    have er161 := nd_ok hn
    have HX162 : Hid (X = (nbr r161).bind fun m r6 => (nd [41] r6).bind fun _ r7 => .ok (a91 ++ b155 ++ [((k : Int), [], m)]) r7) := Lib.hid (by rw [HX158.out, hn]; rfl)
    subst er161
    have WY := Lib.hid (s_want_yes g [44] r161 false _ HSx.out)
    clear hn
    refine WY.out.mono ?_
    rintro e w160 ⟨rfl, hpw160, hgw160⟩
    have HGw160 := Lib.hid (grP_trans HGx.out hgw160)
    have HOw160 := Lib.hid (HOx.out.keptG hgw160 hgl)
    have HBw160 := Lib.hid (grP_trans HBx.out hgw160)
    have HSw160 := Lib.hid hpw160
    clear hpw160 hgw160 WY
    go_wp2_with fail
    cases hm : nbr r161 with
    | out => exact absurd hm (nbr_in _)
    | bad =>
      have HXb : Hid (X = .bad) := Lib.hid (by rw [HX162.out, hm]; rfl)
      have WN := Lib.hid (s_wantNumber_no g r161 false _ HSw160.out hm)
      clear hm
      refine WN.out.mono ?_
      rintro e w177 ⟨rfl, hpw177, hgw177⟩
      have HGw177 := Lib.hid (grP_trans HGw160.out hgw177)
      have HOw177 := Lib.hid (HOw160.out.keptG hgw177 hgl)
      have HBw177 := Lib.hid (grP_trans HBw160.out hgw177)
      have HSw177 := Lib.hid hpw177
      clear hpw177 hgw177 WN
      obtain ⟨l1810, l1811, l1812⟩ := CX.out _ HBw177.out
      have l181f := FX.out _ HBw177.out
      have HS182 := Lib.hid (HSw177.out.setN (L := w137.heap.size) (j := 2) hgB (.int .i64 0))
      have HO183 := Lib.hid (HOw177.out.setN (L := w137.heap.size) (j := 2) OWL.out (.int .i64 0))
      have HG184 := Lib.hid (grP_setN (L := w137.heap.size) (j := 2) HGw177.out hszB (.int .i64 0))
      have CX : Hid (∀ W', World.grownBy (w177.setCell ⟨w137.heap.size, 2, none⟩ (.int .i64 0)) W' (some g) → W'.cell? ⟨w137.heap.size, 0, none⟩ = some (.int .i64 (k : Int)) ∧ W'.cell? ⟨w137.heap.size, 1, none⟩ = some (.string ⟨#[]⟩) ∧ W'.cell? ⟨w137.heap.size, 2, none⟩ = some (.int .i64 0)) := Lib.hid (fun W' h => by
        have hne : some w137.heap.size ≠ some g := fun e => by have := Option.some.inj e; omega
        refine ⟨h.cell ?_ hne, h.cell ?_ hne, h.cell ?_ hne⟩
        · rw [World.cell?_setCell_other _ _ _ _ (fun e2 => by cases e2)]; exact l1810
        · rw [World.cell?_setCell_other _ _ _ _ (fun e2 => by cases e2)]; exact l1811
        · exact World.cell?_setCell_same _ _ _ l1812)
      have HB185 := Lib.hid (grP_refl (w177.setCell ⟨w137.heap.size, 2, none⟩ (.int .i64 0)) (some g))
      go_wp2_with fail
      have WB := Lib.hid (s_want_bad g [41] r161 _ HS182.out (by simp))
      refine WB.out.mono ?_
      rintro e w186 ⟨rfl, ⟨T187, hT187, hpw186⟩, hgw186⟩
      have HGw186 := Lib.hid (grP_trans HG184.out hgw186)
      have HOw186 := Lib.hid (HO183.out.keptG hgw186 hgl)
      have HBw186 := Lib.hid (grP_trans HB185.out hgw186)
      have HSw186 := Lib.hid hpw186
      clear hpw186 hgw186 WB
      obtain ⟨l1890, l1891, l1892⟩ := CX.out _ HBw186.out
      have hsz8 : w.heap.size ≤ w186.heap.size := HGw186.out.size
      have lc : (a91 ++ b155).length ≤ 1000000000 := by (try simp only [List.length_append, List.length_cons, List.length_nil] at *); omega
      go_wp2_with (at_builtin; refine appR rfl _ _ 47 36 (.agg #[.int .i64 0, .string ⟨#[]⟩, .int .i64 0]) 32 info_trmP Tryz.underlying36 rfl (by omega) rfl w.heap.size _ _ _ (a91 ++ b155) (k : Int) [] 0 HOw186.out rfl rfl (HTR.out _ (by omega) (by omega)) lc hsz8 ?_; intro v9 w9 ho9 hg9; have O9 := Lib.hid ho9; have HG9 := Lib.hid (grP_own HGw186.out hg9 (fun q e => (HOw186.out.lt q e).1)); have HS9 := Lib.hid (HSw186.out.grown hg9 (fun q e => by have := (HOw186.out.lt q e).1; omega)); clear ho9 hg9)
      go_ret
      exact retS_bad HG9.out O9.out (by simp) (by (try simp only [List.length_append, List.length_cons, List.length_nil] at *); omega) HS9.out HXb.out
    | ok m0 r179 =>
    obtain ⟨y178, ey178, hy178, em⟩ := nbr_ok hm
    have hml := num_le hy178
    have HX180 : Hid (X = (nd [41] r179).bind fun _ r7 => .ok (a91 ++ b155 ++ [((k : Int), [], ((vl 0 y178 : Nat) : Int))]) r7) := Lib.hid (by rw [HX162.out, hm, em]; rfl)
    subst ey178
    have WY := Lib.hid (s_wantNumber_yes g y178 r179 false _ HSw160.out hy178)
    clear hm hy178 em
    generalize vl 0 y178 = m176 at HX180 WY hml
    refine WY.out.mono ?_
    rintro e w175 ⟨rfl, hpw175, hgw175⟩
    have HGw175 := Lib.hid (grP_trans HGw160.out hgw175)
    have HOw175 := Lib.hid (HOw160.out.keptG hgw175 hgl)
    have HBw175 := Lib.hid (grP_trans HBw160.out hgw175)
    have HSw175 := Lib.hid hpw175
    clear hpw175 hgw175 WY
    obtain ⟨l1900, l1901, l1902⟩ := CX.out _ HBw175.out
    have l190f := FX.out _ HBw175.out
    have HS191 := Lib.hid (HSw175.out.setN (L := w137.heap.size) (j := 2) hgB (.int .i64 (m176 : Int)))
    have HO192 := Lib.hid (HOw175.out.setN (L := w137.heap.size) (j := 2) OWL.out (.int .i64 (m176 : Int)))
    have HG193 := Lib.hid (grP_setN (L := w137.heap.size) (j := 2) HGw175.out hszB (.int .i64 (m176 : Int)))
    have CX : Hid (∀ W', World.grownBy (w175.setCell ⟨w137.heap.size, 2, none⟩ (.int .i64 (m176 : Int))) W' (some g) → W'.cell? ⟨w137.heap.size, 0, none⟩ = some (.int .i64 (k : Int)) ∧ W'.cell? ⟨w137.heap.size, 1, none⟩ = some (.string ⟨#[]⟩) ∧ W'.cell? ⟨w137.heap.size, 2, none⟩ = some (.int .i64 (m176 : Int))) := Lib.hid (fun W' h => by
      have hne : some w137.heap.size ≠ some g := fun e => by have := Option.some.inj e; omega
      refine ⟨h.cell ?_ hne, h.cell ?_ hne, h.cell ?_ hne⟩
      · rw [World.cell?_setCell_other _ _ _ _ (fun e2 => by cases e2)]; exact l1900
      · rw [World.cell?_setCell_other _ _ _ _ (fun e2 => by cases e2)]; exact l1901
      · exact World.cell?_setCell_same _ _ _ l1902)
    have HB194 := Lib.hid (grP_refl (w175.setCell ⟨w137.heap.size, 2, none⟩ (.int .i64 (m176 : Int))) (some g))
    go_wp2_with fail
    cases hn : nd [41] r179 with
    | out => exact absurd hn (nd_in _ _)
    | bad =>
      have HXb : Hid (X = .bad) := Lib.hid (by rw [HX180.out, hn]; rfl)
      have WN := Lib.hid (s_want_no g [41] r179 false _ HS191.out (nd_head hn (by simp)))
      clear hn
      refine WN.out.mono ?_
      rintro e w195 ⟨rfl, hpw195, hgw195⟩
      have HGw195 := Lib.hid (grP_trans HG193.out hgw195)
      have HOw195 := Lib.hid (HO192.out.keptG hgw195 hgl)
      have HBw195 := Lib.hid (grP_trans HB194.out hgw195)
      have HSw195 := Lib.hid hpw195
      clear hpw195 hgw195 WN
      obtain ⟨l2000, l2001, l2002⟩ := CX.out _ HBw195.out
      have hsz8 : w.heap.size ≤ w195.heap.size := HGw195.out.size
      have lc : (a91 ++ b155).length ≤ 1000000000 := by (try simp only [List.length_append, List.length_cons, List.length_nil] at *); omega
      go_wp2_with (at_builtin; refine appR rfl _ _ 47 36 (.agg #[.int .i64 0, .string ⟨#[]⟩, .int .i64 0]) 32 info_trmP Tryz.underlying36 rfl (by omega) rfl w.heap.size _ _ _ (a91 ++ b155) (k : Int) [] (m176 : Int) HOw195.out rfl rfl (HTR.out _ (by omega) (by omega)) lc hsz8 ?_; intro v9 w9 ho9 hg9; have O9 := Lib.hid ho9; have HG9 := Lib.hid (grP_own HGw195.out hg9 (fun q e => (HOw195.out.lt q e).1)); have HS9 := Lib.hid (HSw195.out.grown hg9 (fun q e => by have := (HOw195.out.lt q e).1; omega)); clear ho9 hg9)
      go_ret
      exact retS_bad HG9.out O9.out (by simp) (by (try simp only [List.length_append, List.length_cons, List.length_nil] at *); omega) HS9.out HXb.out
    | ok ur197 r197 =>
    have er197 := nd_ok hn
    have HX198 : Hid (X = .ok (a91 ++ b155 ++ [((k : Int), [], (m176 : Int))]) r197) := Lib.hid (by rw [HX180.out, hn]; rfl)
    subst er197
    have WY := Lib.hid (s_want_yes g [41] r197 false _ HS191.out)
    clear hn
    refine WY.out.mono ?_
    rintro e w196 ⟨rfl, hpw196, hgw196⟩
    have HGw196 := Lib.hid (grP_trans HG193.out hgw196)
    have HOw196 := Lib.hid (HO192.out.keptG hgw196 hgl)
    have HBw196 := Lib.hid (grP_trans HB194.out hgw196)
    have HSw196 := Lib.hid hpw196
    clear hpw196 hgw196 WY
    obtain ⟨l2020, l2021, l2022⟩ := CX.out _ HBw196.out
    have hsz8 : w.heap.size ≤ w196.heap.size := HGw196.out.size
    have lc : (a91 ++ b155).length ≤ 1000000000 := by (try simp only [List.length_append, List.length_cons, List.length_nil] at *); omega
    go_wp2_with (at_builtin; refine appR rfl _ _ 47 36 (.agg #[.int .i64 0, .string ⟨#[]⟩, .int .i64 0]) 32 info_trmP Tryz.underlying36 rfl (by omega) rfl w.heap.size _ _ _ (a91 ++ b155) (k : Int) [] (m176 : Int) HOw196.out rfl rfl (HTR.out _ (by omega) (by omega)) lc hsz8 ?_; intro v9 w9 ho9 hg9; have O9 := Lib.hid ho9; have HG9 := Lib.hid (grP_own HGw196.out hg9 (fun q e => (HOw196.out.lt q e).1)); have HS9 := Lib.hid (HSw196.out.grown hg9 (fun q e => by have := (HOw196.out.lt q e).1; omega)); clear ho9 hg9)
    go_ret
    exact retS_ok HG9.out O9.out HS9.out HX198.out
  · have HXs := Lib.hid HX0.out
    go_enter Tryz.func157, Tryz.ntmps157
    go_wp2_with fail
    cases hn : nd [40] T with
    | out => exact absurd hn (nd_in _ _)
    | bad =>
      have HXb : Hid (X = .bad) := Lib.hid (by rw [HXs.out, hn]; rfl)
      have WN := Lib.hid (s_want_no g [40] T false _ HPr.out (nd_head hn (by simp)))
      clear hn
      refine WN.out.mono ?_
      rintro e w203 ⟨rfl, hpw203, hgw203⟩
      have HGw203 := Lib.hid (grP_trans HGr.out hgw203)
      have HOw203 := Lib.hid (HOr.out.keptG hgw203 hgl)
      have HSw203 := Lib.hid hpw203
      clear hpw203 hgw203 WN
      go_wp2_with fail
      have CB := Lib.hid (s_Or_bad g T _ HSw203.out)
      refine CB.out.mono ?_
      rintro e w207 ⟨rfl, rfl⟩
      go_wp2_with fail
      refine (ST.out _).mono ?_
      rintro e w208 ⟨rfl, rfl⟩
      go_wp2_with fail
      have HGx := Lib.hid (grP_later HGw203.out ((Later.refl w203).alloc (.cells #[.int .i64 (k : Int), .string ⟨#[]⟩, .int .i64 0] 47)))
      have HOx := Lib.hid (HOw203.out.later ((Later.refl w203).alloc (.cells #[.int .i64 (k : Int), .string ⟨#[]⟩, .int .i64 0] 47)))
      have HSx := Lib.hid (HSw203.out.later ((Later.refl w203).alloc (.cells #[.int .i64 (k : Int), .string ⟨#[]⟩, .int .i64 0] 47)))
      have OWL := Lib.hid (fun q e => (HOw203.out.lt q e).2)
      have FB := Lib.hid (fr_alloc (X := w203) (l := [.int .i64 (k : Int), .string ⟨#[]⟩, .int .i64 0]) (T := 47) (Later.refl _))
      have hgB : g < w203.heap.size := HSw203.out.lt
      have hszB : w.heap.size ≤ w203.heap.size := HGw203.out.size
      have CX : Hid (∀ W', World.grownBy (w203.alloc (.cells #[.int .i64 (k : Int), .string ⟨#[]⟩, .int .i64 0] 47)) W' (some g) → W'.cell? ⟨w203.heap.size, 0, none⟩ = some (.int .i64 (k : Int)) ∧ W'.cell? ⟨w203.heap.size, 1, none⟩ = some (.string ⟨#[]⟩) ∧ W'.cell? ⟨w203.heap.size, 2, none⟩ = some (.int .i64 0)) := Lib.hid (fun W' h => by
        have hne : some w203.heap.size ≠ some g := fun e => by have := Option.some.inj e; omega
        obtain ⟨b0, b1, b2, _⟩ := FB.out.o3
        exact ⟨h.cell b0 hne, h.cell b1 hne, h.cell b2 hne⟩)
      have FX : Hid (∀ W', World.grownBy (w203.alloc (.cells #[.int .i64 (k : Int), .string ⟨#[]⟩, .int .i64 0] 47)) W' (some g) → W'.frozen? ⟨w203.heap.size, 2, none⟩ = false) := Lib.hid (fun W' h => by
        rw [World.frozen?_of_block (h.block w203.heap.size (by simp) (fun e => by have := Option.some.inj e; omega))]; exact FB.out.o3.2.2.2.2.2)
      have HBx := Lib.hid (grP_refl (w203.alloc (.cells #[.int .i64 (k : Int), .string ⟨#[]⟩, .int .i64 0] 47)) (some g))
      refine (SC.out _).mono ?_
      rintro e w209 ⟨rfl, rfl⟩
      go_wp2_with fail
      have WB := Lib.hid (s_want_bad g [41] T _ HSx.out (by simp))
      refine WB.out.mono ?_
      rintro e w210 ⟨rfl, ⟨T211, hT211, hpw210⟩, hgw210⟩
      have HGw210 := Lib.hid (grP_trans HGx.out hgw210)
      have HOw210 := Lib.hid (HOx.out.keptG hgw210 hgl)
      have HBw210 := Lib.hid (grP_trans HBx.out hgw210)
      have HSw210 := Lib.hid hpw210
      clear hpw210 hgw210 WB
      obtain ⟨l2130, l2131, l2132⟩ := CX.out _ HBw210.out
      have hsz8 : w.heap.size ≤ w210.heap.size := HGw210.out.size
      have lc : (([] : List Trm)).length ≤ 1000000000 := by (try simp only [List.length_append, List.length_cons, List.length_nil] at *); omega
      go_wp2_with (at_builtin; refine appR rfl _ _ 47 36 (.agg #[.int .i64 0, .string ⟨#[]⟩, .int .i64 0]) 32 info_trmP Tryz.underlying36 rfl (by omega) rfl w.heap.size _ _ _ (([] : List Trm)) (k : Int) [] 0 HOw210.out rfl rfl (HTR.out _ (by omega) (by omega)) lc hsz8 ?_; intro v9 w9 ho9 hg9; have O9 := Lib.hid ho9; have HG9 := Lib.hid (grP_own HGw210.out hg9 (fun q e => (HOw210.out.lt q e).1)); have HS9 := Lib.hid (HSw210.out.grown hg9 (fun q e => by have := (HOw210.out.lt q e).1; omega)); clear ho9 hg9)
      go_ret
      exact retS_bad HG9.out O9.out (by simp) (by (try simp only [List.length_append, List.length_cons, List.length_nil] at *); omega) HS9.out HXb.out
    | ok ur205 r205 =>
    have er205 := nd_ok hn
    have HX206 : Hid (X = (prs f (.chain true) r205).bind fun a r1 => (PR.ok a r1).bind fun c r4 => (PR.ok (0 : Int) r4).bind fun m r6 => (nd [41] r6).bind fun _ r7 => .ok (c ++ [((k : Int), [], m)]) r7) := Lib.hid (by rw [HXs.out, hn]; rfl)
    subst er205
    have WY := Lib.hid (s_want_yes g [40] r205 false _ HPr.out)
    clear hn
    refine WY.out.mono ?_
    rintro e w204 ⟨rfl, hpw204, hgw204⟩
    have HGw204 := Lib.hid (grP_trans HGr.out hgw204)
    have HOw204 := Lib.hid (HOr.out.keptG hgw204 hgl)
    have HSw204 := Lib.hid hpw204
    clear hpw204 hgw204 WY
    go_wp2_with fail
    have hq : prs f (.chain true) r205 ≠ .out := by
      intro e
      have h2 := HX206.out
      rw [e] at h2
      exact HNE.out h2
    have LE1 := Lib.hid (HSw204.out.len)
    have CE := Lib.hid (fun W h1 => HEX.out r205 W g h1 LE1.out hq)
    obtain ⟨q0, hqq⟩ : ∃ q, q = prs f (.chain true) r205 := ⟨_, rfl⟩
    have HQ := Lib.hid hqq
    have HX1 : Hid (X = (prs f (.chain true) r205).bind _) := Lib.hid HX206.out
    rw [← hqq] at HX1 hq CE
    clear hqq
    refine (CE.out _ HSw204.out).mono ?_
    rintro e w214 ⟨hgw214, hr⟩
    have HGw214 := Lib.hid (grP_trans HGw204.out hgw214)
    cases q0 with
    | out => exact absurd rfl hq
    | bad =>
      obtain ⟨v, L215, T216, rfl, ho, hL, hlL215, hpn⟩ := hr
      have HOw214 := Lib.hid (ho.mono HGw204.out.size); have HSw214 := Lib.hid hpn
      have HX2 : Hid (X = .bad) := Lib.hid HX1.out
      clear hgw214 ho hL hpn
      go_wp2_with fail
      refine (ST.out _).mono ?_
      rintro e w219 ⟨rfl, rfl⟩
      go_wp2_with fail
      have HGx := Lib.hid (grP_later HGw214.out ((Later.refl w214).alloc (.cells #[.int .i64 (k : Int), .string ⟨#[]⟩, .int .i64 0] 47)))
      have HOx := Lib.hid (HOw214.out.later ((Later.refl w214).alloc (.cells #[.int .i64 (k : Int), .string ⟨#[]⟩, .int .i64 0] 47)))
      have HSx := Lib.hid (HSw214.out.later ((Later.refl w214).alloc (.cells #[.int .i64 (k : Int), .string ⟨#[]⟩, .int .i64 0] 47)))
      have OWL := Lib.hid (fun q e => (HOw214.out.lt q e).2)
      have FB := Lib.hid (fr_alloc (X := w214) (l := [.int .i64 (k : Int), .string ⟨#[]⟩, .int .i64 0]) (T := 47) (Later.refl _))
      have hgB : g < w214.heap.size := HSw214.out.lt
      have hszB : w.heap.size ≤ w214.heap.size := HGw214.out.size
      have CX : Hid (∀ W', World.grownBy (w214.alloc (.cells #[.int .i64 (k : Int), .string ⟨#[]⟩, .int .i64 0] 47)) W' (some g) → W'.cell? ⟨w214.heap.size, 0, none⟩ = some (.int .i64 (k : Int)) ∧ W'.cell? ⟨w214.heap.size, 1, none⟩ = some (.string ⟨#[]⟩) ∧ W'.cell? ⟨w214.heap.size, 2, none⟩ = some (.int .i64 0)) := Lib.hid (fun W' h => by
        have hne : some w214.heap.size ≠ some g := fun e => by have := Option.some.inj e; omega
        obtain ⟨b0, b1, b2, _⟩ := FB.out.o3
        exact ⟨h.cell b0 hne, h.cell b1 hne, h.cell b2 hne⟩)
      have FX : Hid (∀ W', World.grownBy (w214.alloc (.cells #[.int .i64 (k : Int), .string ⟨#[]⟩, .int .i64 0] 47)) W' (some g) → W'.frozen? ⟨w214.heap.size, 2, none⟩ = false) := Lib.hid (fun W' h => by
        rw [World.frozen?_of_block (h.block w214.heap.size (by simp) (fun e => by have := Option.some.inj e; omega))]; exact FB.out.o3.2.2.2.2.2)
      have HBx := Lib.hid (grP_refl (w214.alloc (.cells #[.int .i64 (k : Int), .string ⟨#[]⟩, .int .i64 0] 47)) (some g))
      refine (SC.out _).mono ?_
      rintro e w220 ⟨rfl, rfl⟩
      go_wp2_with fail
      have WB := Lib.hid (s_want_bad g [41] T216 _ HSx.out (by simp))
      refine WB.out.mono ?_
      rintro e w221 ⟨rfl, ⟨T222, hT222, hpw221⟩, hgw221⟩
      have HGw221 := Lib.hid (grP_trans HGx.out hgw221)
      have HOw221 := Lib.hid (HOx.out.keptG hgw221 hgl)
      have HBw221 := Lib.hid (grP_trans HBx.out hgw221)
      have HSw221 := Lib.hid hpw221
      clear hpw221 hgw221 WB
      obtain ⟨l2240, l2241, l2242⟩ := CX.out _ HBw221.out
      have hsz8 : w.heap.size ≤ w221.heap.size := HGw221.out.size
      have lc : (L215).length ≤ 1000000000 := by (try simp only [List.length_append, List.length_cons, List.length_nil] at *); omega
      go_wp2_with (at_builtin; refine appR rfl _ _ 47 36 (.agg #[.int .i64 0, .string ⟨#[]⟩, .int .i64 0]) 32 info_trmP Tryz.underlying36 rfl (by omega) rfl w.heap.size _ _ _ (L215) (k : Int) [] 0 HOw221.out rfl rfl (HTR.out _ (by omega) (by omega)) lc hsz8 ?_; intro v9 w9 ho9 hg9; have O9 := Lib.hid ho9; have HG9 := Lib.hid (grP_own HGw221.out hg9 (fun q e => (HOw221.out.lt q e).1)); have HS9 := Lib.hid (HSw221.out.grown hg9 (fun q e => by have := (HOw221.out.lt q e).1; omega)); clear ho9 hg9)
      go_ret
      exact retS_bad HG9.out O9.out (by simp) (by (try simp only [List.length_append, List.length_cons, List.length_nil] at *); omega) HS9.out HX2.out
    | ok a217 r218 =>
    obtain ⟨v, rfl, ho, hpn⟩ := hr
    obtain ⟨la217, _, _⟩ := prs_ok f (.chain true) r205 a217 r218 trivial HQ.out.symm
    simp only [accL] at la217
    have HOw214 := Lib.hid (ho.mono HGw204.out.size); have HSw214 := Lib.hid hpn
    have HX2 : Hid (X = (PR.ok (0 : Int) r218).bind fun m r6 => (nd [41] r6).bind fun _ r7 => .ok (a217 ++ [((k : Int), [], m)]) r7) := Lib.hid HX1.out
    clear hgw214 ho hpn
    go_wp2_with fail
    refine (ST.out _).mono ?_
    rintro e w225 ⟨rfl, rfl⟩
    go_wp2_with fail
    have HGx := Lib.hid (grP_later HGw214.out ((Later.refl w214).alloc (.cells #[.int .i64 (k : Int), .string ⟨#[]⟩, .int .i64 0] 47)))
    have HOx := Lib.hid (HOw214.out.later ((Later.refl w214).alloc (.cells #[.int .i64 (k : Int), .string ⟨#[]⟩, .int .i64 0] 47)))
    have HSx := Lib.hid (HSw214.out.later ((Later.refl w214).alloc (.cells #[.int .i64 (k : Int), .string ⟨#[]⟩, .int .i64 0] 47)))
    have OWL := Lib.hid (fun q e => (HOw214.out.lt q e).2)
    have FB := Lib.hid (fr_alloc (X := w214) (l := [.int .i64 (k : Int), .string ⟨#[]⟩, .int .i64 0]) (T := 47) (Later.refl _))
    have hgB : g < w214.heap.size := HSw214.out.lt
    have hszB : w.heap.size ≤ w214.heap.size := HGw214.out.size
    have CX : Hid (∀ W', World.grownBy (w214.alloc (.cells #[.int .i64 (k : Int), .string ⟨#[]⟩, .int .i64 0] 47)) W' (some g) → W'.cell? ⟨w214.heap.size, 0, none⟩ = some (.int .i64 (k : Int)) ∧ W'.cell? ⟨w214.heap.size, 1, none⟩ = some (.string ⟨#[]⟩) ∧ W'.cell? ⟨w214.heap.size, 2, none⟩ = some (.int .i64 0)) := Lib.hid (fun W' h => by
      have hne : some w214.heap.size ≠ some g := fun e => by have := Option.some.inj e; omega
      obtain ⟨b0, b1, b2, _⟩ := FB.out.o3
      exact ⟨h.cell b0 hne, h.cell b1 hne, h.cell b2 hne⟩)
    have FX : Hid (∀ W', World.grownBy (w214.alloc (.cells #[.int .i64 (k : Int), .string ⟨#[]⟩, .int .i64 0] 47)) W' (some g) → W'.frozen? ⟨w214.heap.size, 2, none⟩ = false) := Lib.hid (fun W' h => by
      rw [World.frozen?_of_block (h.block w214.heap.size (by simp) (fun e => by have := Option.some.inj e; omega))]; exact FB.out.o3.2.2.2.2.2)
    have HBx := Lib.hid (grP_refl (w214.alloc (.cells #[.int .i64 (k : Int), .string ⟨#[]⟩, .int .i64 0] 47)) (some g))
    refine (SC.out _).mono ?_
    rintro e w226 ⟨rfl, rfl⟩
    go_wp2_with fail
    have HX227 : Hid (X = (nd [41] r218).bind fun _ r7 => .ok (a217 ++ [((k : Int), [], (0 : Int))]) r7) := Lib.hid HX2.out
    cases hn : nd [41] r218 with
    | out => exact absurd hn (nd_in _ _)
    | bad =>
      have HXb : Hid (X = .bad) := Lib.hid (by rw [HX227.out, hn]; rfl)
      have WN := Lib.hid (s_want_no g [41] r218 false _ HSx.out (nd_head hn (by simp)))
      clear hn
      refine WN.out.mono ?_
      rintro e w228 ⟨rfl, hpw228, hgw228⟩
      have HGw228 := Lib.hid (grP_trans HGx.out hgw228)
      have HOw228 := Lib.hid (HOx.out.keptG hgw228 hgl)
      have HBw228 := Lib.hid (grP_trans HBx.out hgw228)
      have HSw228 := Lib.hid hpw228
      clear hpw228 hgw228 WN
      obtain ⟨l2330, l2331, l2332⟩ := CX.out _ HBw228.out
      have hsz8 : w.heap.size ≤ w228.heap.size := HGw228.out.size
      have lc : (a217).length ≤ 1000000000 := by (try simp only [List.length_append, List.length_cons, List.length_nil] at *); omega
      go_wp2_with (at_builtin; refine appR rfl _ _ 47 36 (.agg #[.int .i64 0, .string ⟨#[]⟩, .int .i64 0]) 32 info_trmP Tryz.underlying36 rfl (by omega) rfl w.heap.size _ _ _ (a217) (k : Int) [] 0 HOw228.out rfl rfl (HTR.out _ (by omega) (by omega)) lc hsz8 ?_; intro v9 w9 ho9 hg9; have O9 := Lib.hid ho9; have HG9 := Lib.hid (grP_own HGw228.out hg9 (fun q e => (HOw228.out.lt q e).1)); have HS9 := Lib.hid (HSw228.out.grown hg9 (fun q e => by have := (HOw228.out.lt q e).1; omega)); clear ho9 hg9)
      go_ret
      exact retS_bad HG9.out O9.out (by simp) (by (try simp only [List.length_append, List.length_cons, List.length_nil] at *); omega) HS9.out HXb.out
    | ok ur230 r230 =>
    have er230 := nd_ok hn
    have HX231 : Hid (X = .ok (a217 ++ [((k : Int), [], 0)]) r230) := Lib.hid (by rw [HX227.out, hn]; rfl)
    subst er230
    have WY := Lib.hid (s_want_yes g [41] r230 false _ HSx.out)
    clear hn
    refine WY.out.mono ?_
    rintro e w229 ⟨rfl, hpw229, hgw229⟩
    have HGw229 := Lib.hid (grP_trans HGx.out hgw229)
    have HOw229 := Lib.hid (HOx.out.keptG hgw229 hgl)
    have HBw229 := Lib.hid (grP_trans HBx.out hgw229)
    have HSw229 := Lib.hid hpw229
    clear hpw229 hgw229 WY
    obtain ⟨l2350, l2351, l2352⟩ := CX.out _ HBw229.out
    have hsz8 : w.heap.size ≤ w229.heap.size := HGw229.out.size
    have lc : (a217).length ≤ 1000000000 := by (try simp only [List.length_append, List.length_cons, List.length_nil] at *); omega
    go_wp2_with (at_builtin; refine appR rfl _ _ 47 36 (.agg #[.int .i64 0, .string ⟨#[]⟩, .int .i64 0]) 32 info_trmP Tryz.underlying36 rfl (by omega) rfl w.heap.size _ _ _ (a217) (k : Int) [] 0 HOw229.out rfl rfl (HTR.out _ (by omega) (by omega)) lc hsz8 ?_; intro v9 w9 ho9 hg9; have O9 := Lib.hid ho9; have HG9 := Lib.hid (grP_own HGw229.out hg9 (fun q e => (HOw229.out.lt q e).1)); have HS9 := Lib.hid (HSw229.out.grown hg9 (fun q e => by have := (HOw229.out.lt q e).1; omega)); clear ho9 hg9)
    go_ret
    exact retS_ok HG9.out O9.out HS9.out HX231.out
  · have HXs := Lib.hid HX0.out
    go_enter Tryz.func157, Tryz.ntmps157
    go_wp2_with fail
    cases hn : nd [40] T with
    | out => exact absurd hn (nd_in _ _)
    | bad =>
      have HXb : Hid (X = .bad) := Lib.hid (by rw [HXs.out, hn]; rfl)
      have WN := Lib.hid (s_want_no g [40] T false _ HPr.out (nd_head hn (by simp)))
      clear hn
      refine WN.out.mono ?_
      rintro e w236 ⟨rfl, hpw236, hgw236⟩
      have HGw236 := Lib.hid (grP_trans HGr.out hgw236)
      have HOw236 := Lib.hid (HOr.out.keptG hgw236 hgl)
      have HSw236 := Lib.hid hpw236
      clear hpw236 hgw236 WN
      go_wp2_with fail
      have CB := Lib.hid (s_Or_bad g T _ HSw236.out)
      refine CB.out.mono ?_
      rintro e w240 ⟨rfl, rfl⟩
      go_wp2_with fail
      refine (ST.out _).mono ?_
      rintro e w241 ⟨rfl, rfl⟩
      go_wp2_with fail
      have HGx := Lib.hid (grP_later HGw236.out ((Later.refl w236).alloc (.cells #[.int .i64 (k : Int), .string ⟨#[]⟩, .int .i64 0] 47)))
      have HOx := Lib.hid (HOw236.out.later ((Later.refl w236).alloc (.cells #[.int .i64 (k : Int), .string ⟨#[]⟩, .int .i64 0] 47)))
      have HSx := Lib.hid (HSw236.out.later ((Later.refl w236).alloc (.cells #[.int .i64 (k : Int), .string ⟨#[]⟩, .int .i64 0] 47)))
      have OWL := Lib.hid (fun q e => (HOw236.out.lt q e).2)
      have FB := Lib.hid (fr_alloc (X := w236) (l := [.int .i64 (k : Int), .string ⟨#[]⟩, .int .i64 0]) (T := 47) (Later.refl _))
      have hgB : g < w236.heap.size := HSw236.out.lt
      have hszB : w.heap.size ≤ w236.heap.size := HGw236.out.size
      have CX : Hid (∀ W', World.grownBy (w236.alloc (.cells #[.int .i64 (k : Int), .string ⟨#[]⟩, .int .i64 0] 47)) W' (some g) → W'.cell? ⟨w236.heap.size, 0, none⟩ = some (.int .i64 (k : Int)) ∧ W'.cell? ⟨w236.heap.size, 1, none⟩ = some (.string ⟨#[]⟩) ∧ W'.cell? ⟨w236.heap.size, 2, none⟩ = some (.int .i64 0)) := Lib.hid (fun W' h => by
        have hne : some w236.heap.size ≠ some g := fun e => by have := Option.some.inj e; omega
        obtain ⟨b0, b1, b2, _⟩ := FB.out.o3
        exact ⟨h.cell b0 hne, h.cell b1 hne, h.cell b2 hne⟩)
      have FX : Hid (∀ W', World.grownBy (w236.alloc (.cells #[.int .i64 (k : Int), .string ⟨#[]⟩, .int .i64 0] 47)) W' (some g) → W'.frozen? ⟨w236.heap.size, 2, none⟩ = false) := Lib.hid (fun W' h => by
        rw [World.frozen?_of_block (h.block w236.heap.size (by simp) (fun e => by have := Option.some.inj e; omega))]; exact FB.out.o3.2.2.2.2.2)
      have HBx := Lib.hid (grP_refl (w236.alloc (.cells #[.int .i64 (k : Int), .string ⟨#[]⟩, .int .i64 0] 47)) (some g))
      refine (SC.out _).mono ?_
      rintro e w242 ⟨rfl, rfl⟩
      go_wp2_with fail
      have WB := Lib.hid (s_want_bad g [44] T _ HSx.out (by simp))
      refine WB.out.mono ?_
      rintro e w243 ⟨rfl, ⟨T244, hT244, hpw243⟩, hgw243⟩
      have HGw243 := Lib.hid (grP_trans HGx.out hgw243)
      have HOw243 := Lib.hid (HOx.out.keptG hgw243 hgl)
      have HBw243 := Lib.hid (grP_trans HBx.out hgw243)
      have HSw243 := Lib.hid hpw243
      clear hpw243 hgw243 WB
      go_wp2_with fail
      have WB := Lib.hid (s_wantNumber_bad g T244 _ HSw243.out)
      refine WB.out.mono ?_
      rintro e w245 ⟨⟨m246, rfl, m246a, m246b⟩, ⟨T247, hT247, hpw245⟩, hgw245⟩
      have HGw245 := Lib.hid (grP_trans HGw243.out hgw245)
      have HOw245 := Lib.hid (HOw243.out.keptG hgw245 hgl)
      have HBw245 := Lib.hid (grP_trans HBw243.out hgw245)
      have HSw245 := Lib.hid hpw245
      clear hpw245 hgw245 WB
      obtain ⟨l2480, l2481, l2482⟩ := CX.out _ HBw245.out
      have l248f := FX.out _ HBw245.out
      have HS249 := Lib.hid (HSw245.out.setN (L := w236.heap.size) (j := 2) hgB (.int .i64 m246))
      have HO250 := Lib.hid (HOw245.out.setN (L := w236.heap.size) (j := 2) OWL.out (.int .i64 m246))
      have HG251 := Lib.hid (grP_setN (L := w236.heap.size) (j := 2) HGw245.out hszB (.int .i64 m246))
      have CX : Hid (∀ W', World.grownBy (w245.setCell ⟨w236.heap.size, 2, none⟩ (.int .i64 m246)) W' (some g) → W'.cell? ⟨w236.heap.size, 0, none⟩ = some (.int .i64 (k : Int)) ∧ W'.cell? ⟨w236.heap.size, 1, none⟩ = some (.string ⟨#[]⟩) ∧ W'.cell? ⟨w236.heap.size, 2, none⟩ = some (.int .i64 m246)) := Lib.hid (fun W' h => by
        have hne : some w236.heap.size ≠ some g := fun e => by have := Option.some.inj e; omega
        refine ⟨h.cell ?_ hne, h.cell ?_ hne, h.cell ?_ hne⟩
        · rw [World.cell?_setCell_other _ _ _ _ (fun e2 => by cases e2)]; exact l2480
        · rw [World.cell?_setCell_other _ _ _ _ (fun e2 => by cases e2)]; exact l2481
        · exact World.cell?_setCell_same _ _ _ l2482)
      have HB252 := Lib.hid (grP_refl (w245.setCell ⟨w236.heap.size, 2, none⟩ (.int .i64 m246)) (some g))
      go_wp2_with fail
      have WB := Lib.hid (s_want_bad g [41] T247 _ HS249.out (by simp))
      refine WB.out.mono ?_
      rintro e w253 ⟨rfl, ⟨T254, hT254, hpw253⟩, hgw253⟩
      have HGw253 := Lib.hid (grP_trans HG251.out hgw253)
      have HOw253 := Lib.hid (HO250.out.keptG hgw253 hgl)
      have HBw253 := Lib.hid (grP_trans HB252.out hgw253)
      have HSw253 := Lib.hid hpw253
      clear hpw253 hgw253 WB
      obtain ⟨l2560, l2561, l2562⟩ := CX.out _ HBw253.out
      have hsz8 : w.heap.size ≤ w253.heap.size := HGw253.out.size
      have lc : (([] : List Trm)).length ≤ 1000000000 := by (try simp only [List.length_append, List.length_cons, List.length_nil] at *); omega
      go_wp2_with (at_builtin; refine appR rfl _ _ 47 36 (.agg #[.int .i64 0, .string ⟨#[]⟩, .int .i64 0]) 32 info_trmP Tryz.underlying36 rfl (by omega) rfl w.heap.size _ _ _ (([] : List Trm)) (k : Int) [] m246 HOw253.out rfl rfl (HTR.out _ (by omega) (by omega)) lc hsz8 ?_; intro v9 w9 ho9 hg9; have O9 := Lib.hid ho9; have HG9 := Lib.hid (grP_own HGw253.out hg9 (fun q e => (HOw253.out.lt q e).1)); have HS9 := Lib.hid (HSw253.out.grown hg9 (fun q e => by have := (HOw253.out.lt q e).1; omega)); clear ho9 hg9)
      go_ret
      exact retS_bad HG9.out O9.out (by simp) (by (try simp only [List.length_append, List.length_cons, List.length_nil] at *); omega) HS9.out HXb.out
    | ok ur238 r238 =>
    have er238 := nd_ok hn
    have HX239 : Hid (X = (prs f (.chain true) r238).bind fun a r1 => (PR.ok a r1).bind fun c r4 => ((nd [44] r4).bind fun _ r5 => nbr r5).bind fun m r6 => (nd [41] r6).bind fun _ r7 => .ok (c ++ [((k : Int), [], m)]) r7) := Lib.hid (by rw [HXs.out, hn]; rfl)
    subst er238
    have WY := Lib.hid (s_want_yes g [40] r238 false _ HPr.out)
    clear hn
    refine WY.out.mono ?_
    rintro e w237 ⟨rfl, hpw237, hgw237⟩
    have HGw237 := Lib.hid (grP_trans HGr.out hgw237)
    have HOw237 := Lib.hid (HOr.out.keptG hgw237 hgl)
    have HSw237 := Lib.hid hpw237
    clear hpw237 hgw237 WY
    go_wp2_with fail
    have hq : prs f (.chain true) r238 ≠ .out := by
      intro e
      have h2 := HX239.out
      rw [e] at h2
      exact HNE.out h2
    have LE1 := Lib.hid (HSw237.out.len)
    have CE := Lib.hid (fun W h1 => HEX.out r238 W g h1 LE1.out hq)
    obtain ⟨q0, hqq⟩ : ∃ q, q = prs f (.chain true) r238 := ⟨_, rfl⟩
    have HQ := Lib.hid hqq
    have HX1 : Hid (X = (prs f (.chain true) r238).bind _) := Lib.hid HX239.out
    rw [← hqq] at HX1 hq CE
    clear hqq
    refine (CE.out _ HSw237.out).mono ?_
    rintro e w257 ⟨hgw257, hr⟩
    have HGw257 := Lib.hid (grP_trans HGw237.out hgw257)
    cases q0 with
    | out => exact absurd rfl hq
    | bad =>
      obtain ⟨v, L258, T259, rfl, ho, hL, hlL258, hpn⟩ := hr
      have HOw257 := Lib.hid (ho.mono HGw237.out.size); have HSw257 := Lib.hid hpn
      have HX2 : Hid (X = .bad) := Lib.hid HX1.out
      clear hgw257 ho hL hpn
      go_wp2_with fail
      refine (ST.out _).mono ?_
      rintro e w262 ⟨rfl, rfl⟩
      go_wp2_with fail
      have HGx := Lib.hid (grP_later HGw257.out ((Later.refl w257).alloc (.cells #[.int .i64 (k : Int), .string ⟨#[]⟩, .int .i64 0] 47)))
      have HOx := Lib.hid (HOw257.out.later ((Later.refl w257).alloc (.cells #[.int .i64 (k : Int), .string ⟨#[]⟩, .int .i64 0] 47)))
      have HSx := Lib.hid (HSw257.out.later ((Later.refl w257).alloc (.cells #[.int .i64 (k : Int), .string ⟨#[]⟩, .int .i64 0] 47)))
      have OWL := Lib.hid (fun q e => (HOw257.out.lt q e).2)
      have FB := Lib.hid (fr_alloc (X := w257) (l := [.int .i64 (k : Int), .string ⟨#[]⟩, .int .i64 0]) (T := 47) (Later.refl _))
      have hgB : g < w257.heap.size := HSw257.out.lt
      have hszB : w.heap.size ≤ w257.heap.size := HGw257.out.size
      have CX : Hid (∀ W', World.grownBy (w257.alloc (.cells #[.int .i64 (k : Int), .string ⟨#[]⟩, .int .i64 0] 47)) W' (some g) → W'.cell? ⟨w257.heap.size, 0, none⟩ = some (.int .i64 (k : Int)) ∧ W'.cell? ⟨w257.heap.size, 1, none⟩ = some (.string ⟨#[]⟩) ∧ W'.cell? ⟨w257.heap.size, 2, none⟩ = some (.int .i64 0)) := Lib.hid (fun W' h => by
        have hne : some w257.heap.size ≠ some g := fun e => by have := Option.some.inj e; omega
        obtain ⟨b0, b1, b2, _⟩ := FB.out.o3
        exact ⟨h.cell b0 hne, h.cell b1 hne, h.cell b2 hne⟩)
      have FX : Hid (∀ W', World.grownBy (w257.alloc (.cells #[.int .i64 (k : Int), .string ⟨#[]⟩, .int .i64 0] 47)) W' (some g) → W'.frozen? ⟨w257.heap.size, 2, none⟩ = false) := Lib.hid (fun W' h => by
        rw [World.frozen?_of_block (h.block w257.heap.size (by simp) (fun e => by have := Option.some.inj e; omega))]; exact FB.out.o3.2.2.2.2.2)
      have HBx := Lib.hid (grP_refl (w257.alloc (.cells #[.int .i64 (k : Int), .string ⟨#[]⟩, .int .i64 0] 47)) (some g))
      refine (SC.out _).mono ?_
      rintro e w263 ⟨rfl, rfl⟩
      go_wp2_with fail
      have WB := Lib.hid (s_want_bad g [44] T259 _ HSx.out (by simp))
      refine WB.out.mono ?_
      rintro e w264 ⟨rfl, ⟨T265, hT265, hpw264⟩, hgw264⟩
      have HGw264 := Lib.hid (grP_trans HGx.out hgw264)
      have HOw264 := Lib.hid (HOx.out.keptG hgw264 hgl)
      have HBw264 := Lib.hid (grP_trans HBx.out hgw264)
      have HSw264 := Lib.hid hpw264
      clear hpw264 hgw264 WB
      go_wp2_with fail
      have WB := Lib.hid (s_wantNumber_bad g T265 _ HSw264.out)
      refine WB.out.mono ?_
      rintro e w266 ⟨⟨m267, rfl, m267a, m267b⟩, ⟨T268, hT268, hpw266⟩, hgw266⟩
      have HGw266 := Lib.hid (grP_trans HGw264.out hgw266)
      have HOw266 := Lib.hid (HOw264.out.keptG hgw266 hgl)
      have HBw266 := Lib.hid (grP_trans HBw264.out hgw266)
      have HSw266 := Lib.hid hpw266
      clear hpw266 hgw266 WB
      obtain ⟨l2690, l2691, l2692⟩ := CX.out _ HBw266.out
      have l269f := FX.out _ HBw266.out
      have HS270 := Lib.hid (HSw266.out.setN (L := w257.heap.size) (j := 2) hgB (.int .i64 m267))
      have HO271 := Lib.hid (HOw266.out.setN (L := w257.heap.size) (j := 2) OWL.out (.int .i64 m267))
      have HG272 := Lib.hid (grP_setN (L := w257.heap.size) (j := 2) HGw266.out hszB (.int .i64 m267))
      have CX : Hid (∀ W', World.grownBy (w266.setCell ⟨w257.heap.size, 2, none⟩ (.int .i64 m267)) W' (some g) → W'.cell? ⟨w257.heap.size, 0, none⟩ = some (.int .i64 (k : Int)) ∧ W'.cell? ⟨w257.heap.size, 1, none⟩ = some (.string ⟨#[]⟩) ∧ W'.cell? ⟨w257.heap.size, 2, none⟩ = some (.int .i64 m267)) := Lib.hid (fun W' h => by
        have hne : some w257.heap.size ≠ some g := fun e => by have := Option.some.inj e; omega
        refine ⟨h.cell ?_ hne, h.cell ?_ hne, h.cell ?_ hne⟩
        · rw [World.cell?_setCell_other _ _ _ _ (fun e2 => by cases e2)]; exact l2690
        · rw [World.cell?_setCell_other _ _ _ _ (fun e2 => by cases e2)]; exact l2691
        · exact World.cell?_setCell_same _ _ _ l2692)
      have HB273 := Lib.hid (grP_refl (w266.setCell ⟨w257.heap.size, 2, none⟩ (.int .i64 m267)) (some g))
      go_wp2_with fail
      have WB := Lib.hid (s_want_bad g [41] T268 _ HS270.out (by simp))
      refine WB.out.mono ?_
      rintro e w274 ⟨rfl, ⟨T275, hT275, hpw274⟩, hgw274⟩
      have HGw274 := Lib.hid (grP_trans HG272.out hgw274)
      have HOw274 := Lib.hid (HO271.out.keptG hgw274 hgl)
      have HBw274 := Lib.hid (grP_trans HB273.out hgw274)
      have HSw274 := Lib.hid hpw274
      clear hpw274 hgw274 WB
      obtain ⟨l2770, l2771, l2772⟩ := CX.out _ HBw274.out
      have hsz8 : w.heap.size ≤ w274.heap.size := HGw274.out.size
      have lc : (L258).length ≤ 1000000000 := by (try simp only [List.length_append, List.length_cons, List.length_nil] at *); omega
      go_wp2_with (at_builtin; refine appR rfl _ _ 47 36 (.agg #[.int .i64 0, .string ⟨#[]⟩, .int .i64 0]) 32 info_trmP Tryz.underlying36 rfl (by omega) rfl w.heap.size _ _ _ (L258) (k : Int) [] m267 HOw274.out rfl rfl (HTR.out _ (by omega) (by omega)) lc hsz8 ?_; intro v9 w9 ho9 hg9; have O9 := Lib.hid ho9; have HG9 := Lib.hid (grP_own HGw274.out hg9 (fun q e => (HOw274.out.lt q e).1)); have HS9 := Lib.hid (HSw274.out.grown hg9 (fun q e => by have := (HOw274.out.lt q e).1; omega)); clear ho9 hg9)
      go_ret
      exact retS_bad HG9.out O9.out (by simp) (by (try simp only [List.length_append, List.length_cons, List.length_nil] at *); omega) HS9.out HX2.out
    | ok a260 r261 =>
    obtain ⟨v, rfl, ho, hpn⟩ := hr
    obtain ⟨la260, _, _⟩ := prs_ok f (.chain true) r238 a260 r261 trivial HQ.out.symm
    simp only [accL] at la260
    have HOw257 := Lib.hid (ho.mono HGw237.out.size); have HSw257 := Lib.hid hpn
    have HX2 : Hid (X = ((nd [44] r261).bind fun _ r5 => nbr r5).bind fun m r6 => (nd [41] r6).bind fun _ r7 => .ok (a260 ++ [((k : Int), [], m)]) r7) := Lib.hid HX1.out
    clear hgw257 ho hpn
    go_wp2_with fail
    refine (ST.out _).mono ?_
    rintro e w278 ⟨rfl, rfl⟩
    go_wp2_with fail
    have HGx := Lib.hid (grP_later HGw257.out ((Later.refl w257).alloc (.cells #[.int .i64 (k : Int), .string ⟨#[]⟩, .int .i64 0] 47)))
    have HOx := Lib.hid (HOw257.out.later ((Later.refl w257).alloc (.cells #[.int .i64 (k : Int), .string ⟨#[]⟩, .int .i64 0] 47)))
    have HSx := Lib.hid (HSw257.out.later ((Later.refl w257).alloc (.cells #[.int .i64 (k : Int), .string ⟨#[]⟩, .int .i64 0] 47)))
    have OWL := Lib.hid (fun q e => (HOw257.out.lt q e).2)
    have FB := Lib.hid (fr_alloc (X := w257) (l := [.int .i64 (k : Int), .string ⟨#[]⟩, .int .i64 0]) (T := 47) (Later.refl _))
    have hgB : g < w257.heap.size := HSw257.out.lt
    have hszB : w.heap.size ≤ w257.heap.size := HGw257.out.size
    have CX : Hid (∀ W', World.grownBy (w257.alloc (.cells #[.int .i64 (k : Int), .string ⟨#[]⟩, .int .i64 0] 47)) W' (some g) → W'.cell? ⟨w257.heap.size, 0, none⟩ = some (.int .i64 (k : Int)) ∧ W'.cell? ⟨w257.heap.size, 1, none⟩ = some (.string ⟨#[]⟩) ∧ W'.cell? ⟨w257.heap.size, 2, none⟩ = some (.int .i64 0)) := Lib.hid (fun W' h => by
      have hne : some w257.heap.size ≠ some g := fun e => by have := Option.some.inj e; omega
      obtain ⟨b0, b1, b2, _⟩ := FB.out.o3
      exact ⟨h.cell b0 hne, h.cell b1 hne, h.cell b2 hne⟩)
    have FX : Hid (∀ W', World.grownBy (w257.alloc (.cells #[.int .i64 (k : Int), .string ⟨#[]⟩, .int .i64 0] 47)) W' (some g) → W'.frozen? ⟨w257.heap.size, 2, none⟩ = false) := Lib.hid (fun W' h => by
      rw [World.frozen?_of_block (h.block w257.heap.size (by simp) (fun e => by have := Option.some.inj e; omega))]; exact FB.out.o3.2.2.2.2.2)
    have HBx := Lib.hid (grP_refl (w257.alloc (.cells #[.int .i64 (k : Int), .string ⟨#[]⟩, .int .i64 0] 47)) (some g))
    refine (SC.out _).mono ?_
    rintro e w279 ⟨rfl, rfl⟩
    go_wp2_with fail
    have HX280 : Hid (X = ((nd [44] r261).bind fun _ r5 => nbr r5).bind fun m r6 => (nd [41] r6).bind fun _ r7 => .ok (a260 ++ [((k : Int), [], m)]) r7) := Lib.hid HX2.out
    cases hn : nd [44] r261 with
    | out => exact absurd hn (nd_in _ _)
    | bad =>
      have HXb : Hid (X = .bad) := Lib.hid (by rw [HX280.out, hn]; rfl)
      have WN := Lib.hid (s_want_no g [44] r261 false _ HSx.out (nd_head hn (by simp)))
      clear hn
      refine WN.out.mono ?_
      rintro e w281 ⟨rfl, hpw281, hgw281⟩
      have HGw281 := Lib.hid (grP_trans HGx.out hgw281)
      have HOw281 := Lib.hid (HOx.out.keptG hgw281 hgl)
      have HBw281 := Lib.hid (grP_trans HBx.out hgw281)
      have HSw281 := Lib.hid hpw281
      clear hpw281 hgw281 WN
      go_wp2_with fail
      have WB := Lib.hid (s_wantNumber_bad g r261 _ HSw281.out)
      refine WB.out.mono ?_
      rintro e w285 ⟨⟨m286, rfl, m286a, m286b⟩, ⟨T287, hT287, hpw285⟩, hgw285⟩
      have HGw285 := Lib.hid (grP_trans HGw281.out hgw285)
      have HOw285 := Lib.hid (HOw281.out.keptG hgw285 hgl)
      have HBw285 := Lib.hid (grP_trans HBw281.out hgw285)
      have HSw285 := Lib.hid hpw285
      clear hpw285 hgw285 WB
      obtain ⟨l2880, l2881, l2882⟩ := CX.out _ HBw285.out
      have l288f := FX.out _ HBw285.out
      have HS289 := Lib.hid (HSw285.out.setN (L := w257.heap.size) (j := 2) hgB (.int .i64 m286))
      have HO290 := Lib.hid (HOw285.out.setN (L := w257.heap.size) (j := 2) OWL.out (.int .i64 m286))
      have HG291 := Lib.hid (grP_setN (L := w257.heap.size) (j := 2) HGw285.out hszB (.int .i64 m286))
      have CX : Hid (∀ W', World.grownBy (w285.setCell ⟨w257.heap.size, 2, none⟩ (.int .i64 m286)) W' (some g) → W'.cell? ⟨w257.heap.size, 0, none⟩ = some (.int .i64 (k : Int)) ∧ W'.cell? ⟨w257.heap.size, 1, none⟩ = some (.string ⟨#[]⟩) ∧ W'.cell? ⟨w257.heap.size, 2, none⟩ = some (.int .i64 m286)) := Lib.hid (fun W' h => by
        have hne : some w257.heap.size ≠ some g := fun e => by have := Option.some.inj e; omega
        refine ⟨h.cell ?_ hne, h.cell ?_ hne, h.cell ?_ hne⟩
        · rw [World.cell?_setCell_other _ _ _ _ (fun e2 => by cases e2)]; exact l2880
        · rw [World.cell?_setCell_other _ _ _ _ (fun e2 => by cases e2)]; exact l2881
        · exact World.cell?_setCell_same _ _ _ l2882)
      have HB292 := Lib.hid (grP_refl (w285.setCell ⟨w257.heap.size, 2, none⟩ (.int .i64 m286)) (some g))
      go_wp2_with fail
      have WB := Lib.hid (s_want_bad g [41] T287 _ HS289.out (by simp))
      refine WB.out.mono ?_
      rintro e w293 ⟨rfl, ⟨T294, hT294, hpw293⟩, hgw293⟩
      have HGw293 := Lib.hid (grP_trans HG291.out hgw293)
      have HOw293 := Lib.hid (HO290.out.keptG hgw293 hgl)
      have HBw293 := Lib.hid (grP_trans HB292.out hgw293)
      have HSw293 := Lib.hid hpw293
      clear hpw293 hgw293 WB
      obtain ⟨l2960, l2961, l2962⟩ := CX.out _ HBw293.out
      have hsz8 : w.heap.size ≤ w293.heap.size := HGw293.out.size
      have lc : (a260).length ≤ 1000000000 := by (try simp only [List.length_append, List.length_cons, List.length_nil] at *); omega
      go_wp2_with (at_builtin; refine appR rfl _ _ 47 36 (.agg #[.int .i64 0, .string ⟨#[]⟩, .int .i64 0]) 32 info_trmP Tryz.underlying36 rfl (by omega) rfl w.heap.size _ _ _ (a260) (k : Int) [] m286 HOw293.out rfl rfl (HTR.out _ (by omega) (by omega)) lc hsz8 ?_; intro v9 w9 ho9 hg9; have O9 := Lib.hid ho9; have HG9 := Lib.hid (grP_own HGw293.out hg9 (fun q e => (HOw293.out.lt q e).1)); have HS9 := Lib.hid (HSw293.out.grown hg9 (fun q e => by have := (HOw293.out.lt q e).1; omega)); clear ho9 hg9)
      go_ret
      exact retS_bad HG9.out O9.out (by simp) (by (try simp only [List.length_append, List.length_cons, List.length_nil] at *); omega) HS9.out HXb.out
    | ok ur283 r283 =>
    have er283 := nd_ok hn
    have HX284 : Hid (X = (nbr r283).bind fun m r6 => (nd [41] r6).bind fun _ r7 => .ok (a260 ++ [((k : Int), [], m)]) r7) := Lib.hid (by rw [HX280.out, hn]; rfl)
    subst er283
    have WY := Lib.hid (s_want_yes g [44] r283 false _ HSx.out)
    clear hn
    refine WY.out.mono ?_
    rintro e w282 ⟨rfl, hpw282, hgw282⟩
    have HGw282 := Lib.hid (grP_trans HGx.out hgw282)
    have HOw282 := Lib.hid (HOx.out.keptG hgw282 hgl)
    have HBw282 := Lib.hid (grP_trans HBx.out hgw282)
    have HSw282 := Lib.hid hpw282
    clear hpw282 hgw282 WY
    go_wp2_with fail
    cases hm : nbr r283 with
    | out => exact absurd hm (nbr_in _)
    | bad =>
      have HXb : Hid (X = .bad) := Lib.hid (by rw [HX284.out, hm]; rfl)
      have WN := Lib.hid (s_wantNumber_no g r283 false _ HSw282.out hm)
      clear hm
      refine WN.out.mono ?_
      rintro e w299 ⟨rfl, hpw299, hgw299⟩
      have HGw299 := Lib.hid (grP_trans HGw282.out hgw299)
      have HOw299 := Lib.hid (HOw282.out.keptG hgw299 hgl)
      have HBw299 := Lib.hid (grP_trans HBw282.out hgw299)
      have HSw299 := Lib.hid hpw299
      clear hpw299 hgw299 WN
      obtain ⟨l3030, l3031, l3032⟩ := CX.out _ HBw299.out
      have l303f := FX.out _ HBw299.out
      have HS304 := Lib.hid (HSw299.out.setN (L := w257.heap.size) (j := 2) hgB (.int .i64 0))
      have HO305 := Lib.hid (HOw299.out.setN (L := w257.heap.size) (j := 2) OWL.out (.int .i64 0))
      have HG306 := Lib.hid (grP_setN (L := w257.heap.size) (j := 2) HGw299.out hszB (.int .i64 0))
      have CX : Hid (∀ W', World.grownBy (w299.setCell ⟨w257.heap.size, 2, none⟩ (.int .i64 0)) W' (some g) → W'.cell? ⟨w257.heap.size, 0, none⟩ = some (.int .i64 (k : Int)) ∧ W'.cell? ⟨w257.heap.size, 1, none⟩ = some (.string ⟨#[]⟩) ∧ W'.cell? ⟨w257.heap.size, 2, none⟩ = some (.int .i64 0)) := Lib.hid (fun W' h => by
        have hne : some w257.heap.size ≠ some g := fun e => by have := Option.some.inj e; omega
        refine ⟨h.cell ?_ hne, h.cell ?_ hne, h.cell ?_ hne⟩
        · rw [World.cell?_setCell_other _ _ _ _ (fun e2 => by cases e2)]; exact l3030
        · rw [World.cell?_setCell_other _ _ _ _ (fun e2 => by cases e2)]; exact l3031
        · exact World.cell?_setCell_same _ _ _ l3032)
      have HB307 := Lib.hid (grP_refl (w299.setCell ⟨w257.heap.size, 2, none⟩ (.int .i64 0)) (some g))
      go_wp2_with fail
      have WB := Lib.hid (s_want_bad g [41] r283 _ HS304.out (by simp))
      refine WB.out.mono ?_
      rintro e w308 ⟨rfl, ⟨T309, hT309, hpw308⟩, hgw308⟩
      have HGw308 := Lib.hid (grP_trans HG306.out hgw308)
      have HOw308 := Lib.hid (HO305.out.keptG hgw308 hgl)
      have HBw308 := Lib.hid (grP_trans HB307.out hgw308)
      have HSw308 := Lib.hid hpw308
      clear hpw308 hgw308 WB
      obtain ⟨l3110, l3111, l3112⟩ := CX.out _ HBw308.out
      have hsz8 : w.heap.size ≤ w308.heap.size := HGw308.out.size
      have lc : (a260).length ≤ 1000000000 := by (try simp only [List.length_append, List.length_cons, List.length_nil] at *); omega
      go_wp2_with (at_builtin; refine appR rfl _ _ 47 36 (.agg #[.int .i64 0, .string ⟨#[]⟩, .int .i64 0]) 32 info_trmP Tryz.underlying36 rfl (by omega) rfl w.heap.size _ _ _ (a260) (k : Int) [] 0 HOw308.out rfl rfl (HTR.out _ (by omega) (by omega)) lc hsz8 ?_; intro v9 w9 ho9 hg9; have O9 := Lib.hid ho9; have HG9 := Lib.hid (grP_own HGw308.out hg9 (fun q e => (HOw308.out.lt q e).1)); have HS9 := Lib.hid (HSw308.out.grown hg9 (fun q e => by have := (HOw308.out.lt q e).1; omega)); clear ho9 hg9)
      go_ret
      exact retS_bad HG9.out O9.out (by simp) (by (try simp only [List.length_append, List.length_cons, List.length_nil] at *); omega) HS9.out HXb.out
    | ok m0 r301 =>
    obtain ⟨y300, ey300, hy300, em⟩ := nbr_ok hm
    have hml := num_le hy300
    have HX302 : Hid (X = (nd [41] r301).bind fun _ r7 => .ok (a260 ++ [((k : Int), [], ((vl 0 y300 : Nat) : Int))]) r7) := Lib.hid (by rw [HX284.out, hm, em]; rfl)
    subst ey300
    have WY := Lib.hid (s_wantNumber_yes g y300 r301 false _ HSw282.out hy300)
    clear hm hy300 em
    generalize vl 0 y300 = m298 at HX302 WY hml
    refine WY.out.mono ?_
    rintro e w297 ⟨rfl, hpw297, hgw297⟩
    have HGw297 := Lib.hid (grP_trans HGw282.out hgw297)
    have HOw297 := Lib.hid (HOw282.out.keptG hgw297 hgl)
    have HBw297 := Lib.hid (grP_trans HBw282.out hgw297)
    have HSw297 := Lib.hid hpw297
    clear hpw297 hgw297 WY
    obtain ⟨l3120, l3121, l3122⟩ := CX.out _ HBw297.out
    have l312f := FX.out _ HBw297.out
    have HS313 := Lib.hid (HSw297.out.setN (L := w257.heap.size) (j := 2) hgB (.int .i64 (m298 : Int)))
    have HO314 := Lib.hid (HOw297.out.setN (L := w257.heap.size) (j := 2) OWL.out (.int .i64 (m298 : Int)))
    have HG315 := Lib.hid (grP_setN (L := w257.heap.size) (j := 2) HGw297.out hszB (.int .i64 (m298 : Int)))
    have CX : Hid (∀ W', World.grownBy (w297.setCell ⟨w257.heap.size, 2, none⟩ (.int .i64 (m298 : Int))) W' (some g) → W'.cell? ⟨w257.heap.size, 0, none⟩ = some (.int .i64 (k : Int)) ∧ W'.cell? ⟨w257.heap.size, 1, none⟩ = some (.string ⟨#[]⟩) ∧ W'.cell? ⟨w257.heap.size, 2, none⟩ = some (.int .i64 (m298 : Int))) := Lib.hid (fun W' h => by
      have hne : some w257.heap.size ≠ some g := fun e => by have := Option.some.inj e; omega
      refine ⟨h.cell ?_ hne, h.cell ?_ hne, h.cell ?_ hne⟩
      · rw [World.cell?_setCell_other _ _ _ _ (fun e2 => by cases e2)]; exact l3120
      · rw [World.cell?_setCell_other _ _ _ _ (fun e2 => by cases e2)]; exact l3121
      · exact World.cell?_setCell_same _ _ _ l3122)
    have HB316 := Lib.hid (grP_refl (w297.setCell ⟨w257.heap.size, 2, none⟩ (.int .i64 (m298 : Int))) (some g))
    go_wp2_with fail
    cases hn : nd [41] r301 with
    | out => exact absurd hn (nd_in _ _)
    | bad =>
      have HXb : Hid (X = .bad) := Lib.hid (by rw [HX302.out, hn]; rfl)
      have WN := Lib.hid (s_want_no g [41] r301 false _ HS313.out (nd_head hn (by simp)))
      clear hn
      refine WN.out.mono ?_
      rintro e w317 ⟨rfl, hpw317, hgw317⟩
      have HGw317 := Lib.hid (grP_trans HG315.out hgw317)
      have HOw317 := Lib.hid (HO314.out.keptG hgw317 hgl)
      have HBw317 := Lib.hid (grP_trans HB316.out hgw317)
      have HSw317 := Lib.hid hpw317
      clear hpw317 hgw317 WN
      obtain ⟨l3220, l3221, l3222⟩ := CX.out _ HBw317.out
      have hsz8 : w.heap.size ≤ w317.heap.size := HGw317.out.size
      have lc : (a260).length ≤ 1000000000 := by (try simp only [List.length_append, List.length_cons, List.length_nil] at *); omega
      go_wp2_with (at_builtin; refine appR rfl _ _ 47 36 (.agg #[.int .i64 0, .string ⟨#[]⟩, .int .i64 0]) 32 info_trmP Tryz.underlying36 rfl (by omega) rfl w.heap.size _ _ _ (a260) (k : Int) [] (m298 : Int) HOw317.out rfl rfl (HTR.out _ (by omega) (by omega)) lc hsz8 ?_; intro v9 w9 ho9 hg9; have O9 := Lib.hid ho9; have HG9 := Lib.hid (grP_own HGw317.out hg9 (fun q e => (HOw317.out.lt q e).1)); have HS9 := Lib.hid (HSw317.out.grown hg9 (fun q e => by have := (HOw317.out.lt q e).1; omega)); clear ho9 hg9)
      go_ret
      exact retS_bad HG9.out O9.out (by simp) (by (try simp only [List.length_append, List.length_cons, List.length_nil] at *); omega) HS9.out HXb.out
    | ok ur319 r319 =>
    have er319 := nd_ok hn
    have HX320 : Hid (X = .ok (a260 ++ [((k : Int), [], (m298 : Int))]) r319) := Lib.hid (by rw [HX302.out, hn]; rfl)
    subst er319
    have WY := Lib.hid (s_want_yes g [41] r319 false _ HS313.out)
    clear hn
    refine WY.out.mono ?_
    rintro e w318 ⟨rfl, hpw318, hgw318⟩
    have HGw318 := Lib.hid (grP_trans HG315.out hgw318)
    have HOw318 := Lib.hid (HO314.out.keptG hgw318 hgl)
    have HBw318 := Lib.hid (grP_trans HB316.out hgw318)
    have HSw318 := Lib.hid hpw318
    clear hpw318 hgw318 WY
    obtain ⟨l3240, l3241, l3242⟩ := CX.out _ HBw318.out
    have hsz8 : w.heap.size ≤ w318.heap.size := HGw318.out.size
    have lc : (a260).length ≤ 1000000000 := by (try simp only [List.length_append, List.length_cons, List.length_nil] at *); omega
    go_wp2_with (at_builtin; refine appR rfl _ _ 47 36 (.agg #[.int .i64 0, .string ⟨#[]⟩, .int .i64 0]) 32 info_trmP Tryz.underlying36 rfl (by omega) rfl w.heap.size _ _ _ (a260) (k : Int) [] (m298 : Int) HOw318.out rfl rfl (HTR.out _ (by omega) (by omega)) lc hsz8 ?_; intro v9 w9 ho9 hg9; have O9 := Lib.hid ho9; have HG9 := Lib.hid (grP_own HGw318.out hg9 (fun q e => (HOw318.out.lt q e).1)); have HS9 := Lib.hid (HSw318.out.grown hg9 (fun q e => by have := (HOw318.out.lt q e).1; omega)); clear ho9 hg9)
    go_ret
    exact retS_ok HG9.out O9.out HS9.out HX320.out
theorem s_parts : ∀ f : Nat, (OpS N 63 f (.chain true) ∧ OpS N 114 f (.chain false) ∧ OpS N 140 f .factor ∧ ∀ k, 7 ≤ k ∧ k ≤ 12 → BlkS N f k) := by
  intro f
  induction f using Nat.strongRecOn with
  | ind f ih =>
    cases f with
    | zero =>
      refine ⟨fun T w g _ _ h => absurd rfl h, fun T w g _ _ h => absurd rfl h, fun T w g _ _ h => absurd rfl h, fun k _ T w g _ _ h => absurd rfl h⟩
    | succ f =>
      refine ⟨s_chain_true f (fun f' h => (ih f' (by omega)).2.1), s_chain_false f (fun f' h => (ih f' (by omega)).2.2.1), s_factor f (ih f (by omega)).1 (ih f (by omega)).2.2.1 (ih f (by omega)).2.2.2, fun k hk => s_block f k hk (ih f (by omega)).1⟩
end Go.Proofs.YtggnhdeldmkdmaaGreatDoor
