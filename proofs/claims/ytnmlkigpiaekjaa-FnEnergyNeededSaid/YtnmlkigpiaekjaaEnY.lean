/- The drawn arguments of the laws of chapter 6 on runs. -/
import Derived.Test.YtnmlkigpiaekjaaEnQ
import Derived.Test.YtnmlkigpiaekjaaEnV
namespace Go.Proofs.Ytnmlkigpiaekjaa
open Go.RowKit
set_option maxHeartbeats 4000000
set_option linter.unusedVariables false
set_option linter.unusedSimpArgs false
theorem sgs_far0 {w : World} {a : Option Addr} {n g : Nat} {L : List Sg} (h : Sgs w a n L) (hne : ∀ x, a = some x → 0 < n → x.block ≠ g) (j : Nat) (u : Value) : Sgs (w.setCell ⟨g, j, none⟩ u) a n L := by
  obtain ⟨h1, h2, h3, h4⟩ := h
  refine ⟨h1, h2, fun k hk => ?_, h4⟩
  obtain ⟨b, off, e, hcl⟩ := h3 k hk
  have hn := hne _ e (by omega)
  refine ⟨b, off, e, fun i hi => ?_⟩
  rw [World.cell?_setCell_far _ _ _ _ (Ne.symm hn)]
  exact hcl i hi
/-- a drawn layout and two numbers, for a law -/
def OneL2 (w : World) (e : Ending) (w' : World) : Prop :=
  ∃ (a' : Option Addr) (n cap' : Nat) (L : List Sg) (p q : Int), e = .returned (.tuple #[.agg #[.slice a' n cap'], .int .i64 p, .int .i64 q]) ∧ Sgs w' a' n L ∧ InR p ∧ InR q ∧ Later w w'
theorem s_DrawEnergyNeeded (a : Option Addr) (len cap : Nat) (w : World) (hs : Bytes w a len) :
    Calls Try.prog 16 #[.slice a len cap] w (OneL2 w) := by
  have HS := Lib.hid hs
  clear hs
  go_enter Try.func16, Try.ntmps16
  go_wp2_with fail
  refine (s_From a len cap _ (HS.out.later ((Later.refl _).alloc _))).mono ?_
  rintro e w1 ⟨rfl, src, lt, bel⟩
  have F1 := fr_later (fr_alloc (X := w) (l := [.slice none 0 0]) (T := 26) (Later.refl _)) bel
  have B1 : Hid (Later w w1) := Lib.hid (Later.trans ((Later.refl _).alloc _) bel)
  rw [World.size_alloc] at src lt ⊢
  have S1 := Lib.hid src
  clear src bel
  go_wp2_with fail
  refine (s_l06DrawRun (w.heap.size + 1) a len cap _ S1.out).mono ?_
  rintro e w2 ⟨a', n, cap', L, p, q, rfl, hl, hcap, hbl, hp, hq, gr, src⟩
  have B2 : Hid (Later w w2) := Lib.hid (Below.grown B1.out gr B1.out.size (fun k h => by have := Option.some.inj h; omega))
  have G1 := fr_keptD F1 gr (fun e => by have := Option.some.inj e; omega)
  have LL := Lib.hid hl
  have NB : Hid (∀ x, a' = some x → 0 < n → x.block ≠ w.heap.size) := Lib.hid (fun x hx hn => by have := hbl x hx hn; omega)
  obtain ⟨f0, f1⟩ := Fr.o1 G1
  clear src gr F1 G1 hl hbl
  go_wp2_with fail
  refine bodyPost_ret (v := .tuple #[.agg #[.slice a' n cap'], .int .i64 p, .int .i64 q]) (by simp [results, Try.results16, go_sem, *]) rfl ⟨a', n, cap', L, p, q, rfl, sgs_far0 LL.out NB.out _ _, hp, hq, Later.setCell B2.out (by simp) _⟩
section
variable {l : List (Nat × Nat × Value)} {g : Nat} {a' : Option Addr} {n : Nat} {L : List Sg} {B : Nat} {a : Option Addr} {len cap : Nat} {w0 W W1 : World}
theorem DL.bx2 (h : DL l g a' n L B a len cap w0 W) (v0 v1 : Value) (T : TypeId) : DL ((W.heap.size, 0, v0) :: (W.heap.size, 1, v1) :: l) g a' n L B a len cap w0 (W.alloc (.cells #[v0, v1] T)) :=
  ⟨h.1.box2 v0 v1 T, h.2.1.later ((Later.refl _).alloc _), h.2.2⟩
theorem DL.st2 {k : Nat} {u0 u1 v0 v1 : Value} (h : DL ((k, 0, v0) :: (k, 1, v1) :: l) g a' n L B a len cap w0 W) (hl : ∀ x ∈ l, x.1 ≠ k) (hk : ∀ x, a' = some x → 0 < n → x.block ≠ k) : DL ((k, 0, u0) :: (k, 1, u1) :: l) g a' n L B a len cap w0 ((W.setCell ⟨k, 0, none⟩ u0).setCell ⟨k, 1, none⟩ u1) :=
  ⟨h.1.store2 hl, sgs_far0 (sgs_far0 h.2.1 hk 0 u0) hk 1 u1, h.2.2⟩
end
theorem keep3 {W : World} {b1 b2 : Nat} {u0 u1 u2 : Value} (h : W.cell? ⟨b1, 0, none⟩ = some u0 ∧ W.cell? ⟨b1, 1, none⟩ = some u1 ∧ W.cell? ⟨b2, 0, none⟩ = some u2) (p : Addr) (u : Value) (h1 : p.block ≠ b1) (h2 : p.block ≠ b2) :
    (W.setCell p u).cell? ⟨b1, 0, none⟩ = some u0 ∧ (W.setCell p u).cell? ⟨b1, 1, none⟩ = some u1 ∧ (W.setCell p u).cell? ⟨b2, 0, none⟩ = some u2 := by
  refine ⟨?_, ?_, ?_⟩
  · rw [World.cell?_setCell_far _ _ _ _ h1]; exact h.1
  · rw [World.cell?_setCell_far _ _ _ _ h1]; exact h.2.1
  · rw [World.cell?_setCell_far _ _ _ _ h2]; exact h.2.2
/-- a drawn layout, two numbers and an interval, for a law -/
def OneL3 (w : World) (e : Ending) (w' : World) : Prop :=
  ∃ (a' : Option Addr) (n cap' : Nat) (L : List Sg) (p q x y : Int), e = .returned (.tuple #[.agg #[.slice a' n cap'], .int .i64 p, .int .i64 q, .agg #[.int .i64 x, .int .i64 y]]) ∧ Sgs w' a' n L ∧ InR p ∧ InR q ∧ InR x ∧ InR y ∧ Later w w'
set_option maxRecDepth 100000 in
theorem s_DrawEnergyAlong (a : Option Addr) (len cap : Nat) (w : World) (hs : Bytes w a len) :
    Calls Try.prog 10 #[.slice a len cap] w (OneL3 w) := by
  have HS := Lib.hid hs
  clear hs
  go_enter Try.func10, Try.ntmps10
  go_wp2_with fail
  refine (s_From a len cap _ (HS.out.later (((Later.refl _).alloc _).alloc _))).mono ?_
  rintro e w1 ⟨rfl, src, lt, bel⟩
  have F1 := fr_later (fr_later (fr_alloc (X := w) (l := [.slice none 0 0]) (T := 26) (Later.refl _)) ((Later.refl _).alloc (.cells #[.int .i64 0, .int .i64 0] 28))) bel
  have F2 := fr_later (fr_alloc (X := w.alloc (.cells #[.slice none 0 0] 26)) (l := [.int .i64 0, .int .i64 0]) (T := 28) (Later.refl _)) bel
  have B1 : Hid (Later w w1) := Lib.hid (Later.trans (((Later.refl _).alloc _).alloc _) bel)
  rw [World.size_alloc] at F2
  rw [World.size_alloc, World.size_alloc] at src lt ⊢
  have S1 := Lib.hid src
  have G1 := Lib.hid F1; have G2 := Lib.hid F2
  clear src bel F1 F2
  go_wp2_with fail
  refine (s_l06DrawRun (w.heap.size + 1 + 1) a len cap _ S1.out).mono ?_
  rintro e w2 ⟨a', n, cap', L, f, c, rfl, hl, hcap, hbl, hf, hc, gr, src⟩
  have NB : Hid (∀ x, a' = some x → 0 < n → x.block ≠ w.heap.size ∧ x.block ≠ w.heap.size + 1 ∧ x.block ≠ w.heap.size + 1 + 1 ∧ x.block < w2.heap.size) := Lib.hid (fun x hx hn => by
    have h1 := hbl x hx hn
    obtain ⟨b, off, e, hb, _⟩ := hl.at 0 hn
    rw [hx] at e; cases e
    exact ⟨by show b ≠ _; have h1 : w1.heap.size ≤ b := h1; omega, by show b ≠ _; have h1 : w1.heap.size ≤ b := h1; omega, by show b ≠ _; have h1 : w1.heap.size ≤ b := h1; omega, hb⟩)
  have NB0 : Hid (∀ x, a' = some x → 0 < n → x.block ≠ w.heap.size) := Lib.hid (fun x hx hn => (NB.out x hx hn).1)
  have NB1 : Hid (∀ x, a' = some x → 0 < n → x.block ≠ w.heap.size + 1) := Lib.hid (fun x hx hn => (NB.out x hx hn).2.1)
  have hnm := hl.2.1
  have hz2 := gr.size
  have d2 : DL [] w.heap.size a' n L (w.heap.size + 1 + 1) a len cap w1 w2 := ⟨(St.begin S1.out).call src gr, hl, fun x hx hn => ⟨(NB.out x hx hn).2.2.1, (NB.out x hx hn).1⟩⟩
  have D2 := Lib.hid (d2.box (.slice a' n cap') 26)
  clear hl hbl gr src S1 d2
  go_wp2_with fail
  refine (s_l06Draw (w.heap.size + 1 + 1) a len cap _ D2.out.src).mono ?_
  rintro e w3 ⟨x, y, rfl, px, py, src, gr⟩
  have hz3 := gr.size
  rw [World.size_alloc] at hz3
  have q1 := (D2.out.call src gr).c1
  have D3 := Lib.hid ((D2.out.call src gr).bx2 (.int .i64 x) (.int .i64 y) 28)
  have hx := smq_in px
  have hy := smq_in py
  have hz4 : w2.heap.size < w3.heap.size := by omega
  clear src gr px py
  go_wp2_with fail
  refine (s_IsLayout a' n cap' L _ D3.out.sg).mono ?_
  cases hv : layB L
  · rintro e w4 ⟨rfl, hb⟩
    have D4 := Lib.hid (D3.out.later hb)
    clear hb q1
    go_wp2_with fail
    refine into (fun W => DL [(w3.heap.size, 0, .int .i64 x), (w3.heap.size, 1, .int .i64 y), (w2.heap.size, 0, .slice a' n cap')] w.heap.size a' n L (w.heap.size + 1 + 1) a len cap w1 W) D4.out ?_
    intro W hW
    obtain ⟨k0, j0⟩ := hW.1.at w3.heap.size 0 (.int .i64 x) (by simp)
    obtain ⟨k1, j1⟩ := hW.1.at w3.heap.size 1 (.int .i64 y) (by simp)
    obtain ⟨k2, j2⟩ := hW.1.at w2.heap.size 0 (.slice a' n cap') (by simp)
    obtain ⟨m0, m1⟩ := Fr.o1 (fr_keptD G1.out hW.1.grown (fun e => by have := Option.some.inj e; omega))
    obtain ⟨m2, m3, m4, m5⟩ := Fr.o2 (fr_keptD G2.out hW.1.grown (fun e => by have := Option.some.inj e; omega))
    have BW : Hid (Later w W) := Lib.hid (Below.grown B1.out hW.1.grown B1.out.size (fun k h => by have := Option.some.inj h; omega))
    have SW := Lib.hid hW.sg
    clear hW D2 D3
    have ne1 : w.heap.size ≠ w3.heap.size := by omega
    have ne2 : w.heap.size ≠ w2.heap.size := by omega
    have ne3 : w.heap.size + 1 ≠ w3.heap.size := by omega
    have ne4 : w.heap.size + 1 ≠ w2.heap.size := by omega
    go_region_held3 (fun w' => w'.cell? ⟨w3.heap.size, 0, none⟩ = some (.int .i64 x) ∧ w'.cell? ⟨w3.heap.size, 1, none⟩ = some (.int .i64 y) ∧ w'.cell? ⟨w2.heap.size, 0, none⟩ = some (.slice a' n cap'))
      (((repeat (refine keep3 ?_ _ _ (by simp [ne1, ne2, ne3, ne4]) (by simp [ne1, ne2, ne3, ne4]))); exact ⟨k0, k1, k2⟩))
      (fail)
    all_goals
      go_wp2_with fail
      refine bodyPost_ret (v := .tuple #[.agg #[.slice a' n cap'], .int .i64 f, .int .i64 c, .agg #[.int .i64 x, .int .i64 y]]) (by simp [results, Try.results10, go_sem, *]) rfl ⟨a', n, cap', L, f, c, x, y, rfl, ?_, hf, hc, hx, hy, ?_⟩
      · first
          | exact Sgs.later (sgs_far0 (sgs_far0 (sgs_far0 SW.out NB0.out _ _) NB1.out _ _) NB1.out _ _) ((Later.refl _).drew)
          | exact Sgs.later (sgs_far0 (sgs_far0 (sgs_far0 SW.out NB1.out _ _) NB1.out _ _) NB0.out _ _) ((Later.refl _).drew)
      · exact Later.drew (Later.setCell (Later.setCell (Later.setCell BW.out (by simp) _) (by simp) _) (by simp) _)
  · rintro e w4 ⟨rfl, hb⟩
    have D4 := Lib.hid (D3.out.later hb)
    have q2 := (D4.out.1.at w2.heap.size 0 (.slice a' n cap') (by simp)).1
    clear hb q1
    go_wp2_with fail
    by_cases hr : ((decide (0 ≤ f) && decide (f ≤ (n : Int) - 1)) && (decide (0 ≤ c) && decide (c ≤ 24))) = true
    · have HR := Lib.hid hr
      refine (s_Range a' n cap' f c true _ hnm HR.out).mono ?_
      rintro e w5 ⟨rfl, hb⟩
      have D5 := Lib.hid (D4.out.later hb)
      clear hb q2
      go_wp2_with fail
      refine (s_Next (w.heap.size + 1 + 1) a len cap 2 _ D5.out.src (by omega) (by omega)).mono ?_
      rintro e w6 ⟨d, rfl, x0, x1, x2, src, gr⟩
      have D6 := Lib.hid (D5.out.call src gr)
      clear src gr x1 x2
      by_cases hd : d = 0
      · subst hd
        have hb5 : 0 ≤ f ∧ f < (n : Int) ∧ 0 ≤ c ∧ c ≤ 24 := by simp at hr; omega
        obtain ⟨f', rfl⟩ : ∃ f' : Nat, f = (f' : Int) := ⟨f.toNat, by omega⟩
        obtain ⟨c', rfl⟩ : ∃ c' : Nat, c = (c' : Int) := ⟨c.toNat, by omega⟩
        have hl4 := (layB_iff L).1 hv
        have hln := D6.out.sg.1
        have hn0 : 0 < n := by omega
        have hc24 : c' ≤ 24 := by omega
        have hf24 : f' ≤ 1000 := by omega
        have hok := runS_okB L f' c' hl4.2.2.1 (by omega)
        have hnd := ndN_bd (runS L f' c') hok c' (by rw [runS_len]; exact Nat.le_refl _)
        have HOK := Lib.hid hl4.2.2.1
        have q3 := (D6.out.1.at w2.heap.size 0 (.slice a' n cap') (by simp)).1
        clear hl4 hln hok hb5 hr
        go_upto_region 5 with fail
        go_cut [11] (fun s w' => ∃ nd : Int, s = .int .i64 nd ∧ 0 ≤ nd ∧ nd ≤ 10000000000 ∧ DL [(w3.heap.size, 0, .int .i64 x), (w3.heap.size, 1, .int .i64 y), (w2.heap.size, 0, .slice a' n cap')] w.heap.size a' n L (w.heap.size + 1 + 1) a len cap w1 w')
        case first =>
          go_wp2_with fail
          refine (s_Needed a' n cap' L f' c' _ D6.out.sg hn0 hf24 hc24 HOK.out).mono ?_
          generalize ndN (runS L f' c') c' = N at hnd ⊢
          rintro e w7 ⟨rfl, hb⟩
          have D7 := Lib.hid (D6.out.later hb)
          clear hb q3
          go_wp2_with fail
          all_goals
            go_meet
            exact ⟨_, rfl, by first | omega | (split <;> omega), by first | omega | (split <;> omega), D7.out⟩
        case rest =>
          obtain ⟨nd, rfl, n0, n1, hP⟩ := hcut
          have D7 := Lib.hid hP
          clear hP hnd q3
          go_upto_region 6 with fail
          go_cut [] (fun w' => ∃ x y : Int, InR x ∧ InR y ∧ DL [(w3.heap.size, 0, .int .i64 x), (w3.heap.size, 1, .int .i64 y), (w2.heap.size, 0, .slice a' n cap')] w.heap.size a' n L (w.heap.size + 1 + 1) a len cap w1 w')
          case first =>
            go_wp2_with fail
            refine (s_Next (w.heap.size + 1 + 1) a len cap 20 _ D7.out.src (by omega) (by omega)).mono ?_
            rintro e w8 ⟨p, rfl, x0, x1, x2, src, gr⟩
            have D8 := Lib.hid (D7.out.call src gr)
            have hp := x1 (by omega)
            clear src gr x1 x2
            have hp19 : p.tdiv 19 = p / 19 := Int.tdiv_eq_ediv_of_nonneg x0
            go_wp2_with fail
            all_goals
              refine (s_Next (w.heap.size + 1 + 1) a len cap 1000000 _ D8.out.src (by omega) (by omega)).mono ?_
              rintro e w9 ⟨u, rfl, x0, x1, x2, src, gr⟩
              have D9 := Lib.hid (D8.out.call src gr)
              have hu := x1 (by omega)
              obtain ⟨k0, j0⟩ := D9.out.1.at w3.heap.size 0 (.int .i64 x) (by simp)
              obtain ⟨k1, j1⟩ := D9.out.1.at w3.heap.size 1 (.int .i64 y) (by simp)
              clear src gr x1 x2
              go_wp2_with fail
              all_goals
                go_meet
                exact ⟨_, _, ⟨by omega, by omega⟩, ⟨by omega, by omega⟩, DL.st2 D9.out (by simp; omega) (fun z hz hn => by have := (NB.out z hz hn).2.2.2; omega)⟩
          case rest =>
            obtain ⟨x', y', hx', hy', hP⟩ := hcut
            have D8 := Lib.hid hP
            clear hP
            go_wp2_with fail
            refine into (fun W => DL [(w3.heap.size, 0, .int .i64 x'), (w3.heap.size, 1, .int .i64 y'), (w2.heap.size, 0, .slice a' n cap')] w.heap.size a' n L (w.heap.size + 1 + 1) a len cap w1 W) D8.out ?_
            intro W hW
            obtain ⟨k0, j0⟩ := hW.1.at w3.heap.size 0 (.int .i64 x') (by simp)
            obtain ⟨k1, j1⟩ := hW.1.at w3.heap.size 1 (.int .i64 y') (by simp)
            obtain ⟨k2, j2⟩ := hW.1.at w2.heap.size 0 (.slice a' n cap') (by simp)
            obtain ⟨m0, m1⟩ := Fr.o1 (fr_keptD G1.out hW.1.grown (fun e => by have := Option.some.inj e; omega))
            obtain ⟨m2, m3, m4, m5⟩ := Fr.o2 (fr_keptD G2.out hW.1.grown (fun e => by have := Option.some.inj e; omega))
            have BW : Hid (Later w W) := Lib.hid (Below.grown B1.out hW.1.grown B1.out.size (fun k h => by have := Option.some.inj h; omega))
            have SW := Lib.hid hW.sg
            clear hW D2 D3
            have ne1 : w.heap.size ≠ w3.heap.size := by omega
            have ne2 : w.heap.size ≠ w2.heap.size := by omega
            have ne3 : w.heap.size + 1 ≠ w3.heap.size := by omega
            have ne4 : w.heap.size + 1 ≠ w2.heap.size := by omega
            go_region_held3 (fun w' => w'.cell? ⟨w3.heap.size, 0, none⟩ = some (.int .i64 x') ∧ w'.cell? ⟨w3.heap.size, 1, none⟩ = some (.int .i64 y') ∧ w'.cell? ⟨w2.heap.size, 0, none⟩ = some (.slice a' n cap'))
              (((repeat (refine keep3 ?_ _ _ (by simp [ne1, ne2, ne3, ne4]) (by simp [ne1, ne2, ne3, ne4]))); exact ⟨k0, k1, k2⟩))
              (fail)
            all_goals
              go_wp2_with fail
              refine bodyPost_ret (v := .tuple #[.agg #[.slice a' n cap'], .int .i64 (f' : Int), .int .i64 (c' : Int), .agg #[.int .i64 x', .int .i64 y']]) (by simp [results, Try.results10, go_sem, *]) rfl ⟨a', n, cap', L, (f' : Int), (c' : Int), x', y', rfl, ?_, hf, hc, hx', hy', ?_⟩
              · first
                  | exact Sgs.later (sgs_far0 (sgs_far0 (sgs_far0 SW.out NB0.out _ _) NB1.out _ _) NB1.out _ _) ((Later.refl _).drew)
                  | exact Sgs.later (sgs_far0 (sgs_far0 (sgs_far0 SW.out NB1.out _ _) NB1.out _ _) NB0.out _ _) ((Later.refl _).drew)
              · exact Later.drew (Later.setCell (Later.setCell (Later.setCell BW.out (by simp) _) (by simp) _) (by simp) _)
      · have hd2 : (d == 0) = false := by simpa using hd
        clear hd
        go_wp2_with fail
        refine into (fun W => DL [(w3.heap.size, 0, .int .i64 x), (w3.heap.size, 1, .int .i64 y), (w2.heap.size, 0, .slice a' n cap')] w.heap.size a' n L (w.heap.size + 1 + 1) a len cap w1 W) D6.out ?_
        intro W hW
        obtain ⟨k0, j0⟩ := hW.1.at w3.heap.size 0 (.int .i64 x) (by simp)
        obtain ⟨k1, j1⟩ := hW.1.at w3.heap.size 1 (.int .i64 y) (by simp)
        obtain ⟨k2, j2⟩ := hW.1.at w2.heap.size 0 (.slice a' n cap') (by simp)
        obtain ⟨m0, m1⟩ := Fr.o1 (fr_keptD G1.out hW.1.grown (fun e => by have := Option.some.inj e; omega))
        obtain ⟨m2, m3, m4, m5⟩ := Fr.o2 (fr_keptD G2.out hW.1.grown (fun e => by have := Option.some.inj e; omega))
        have BW : Hid (Later w W) := Lib.hid (Below.grown B1.out hW.1.grown B1.out.size (fun k h => by have := Option.some.inj h; omega))
        have SW := Lib.hid hW.sg
        clear hW D2 D3
        have ne1 : w.heap.size ≠ w3.heap.size := by omega
        have ne2 : w.heap.size ≠ w2.heap.size := by omega
        have ne3 : w.heap.size + 1 ≠ w3.heap.size := by omega
        have ne4 : w.heap.size + 1 ≠ w2.heap.size := by omega
        go_region_held3 (fun w' => w'.cell? ⟨w3.heap.size, 0, none⟩ = some (.int .i64 x) ∧ w'.cell? ⟨w3.heap.size, 1, none⟩ = some (.int .i64 y) ∧ w'.cell? ⟨w2.heap.size, 0, none⟩ = some (.slice a' n cap'))
          (((repeat (refine keep3 ?_ _ _ (by simp [ne1, ne2, ne3, ne4]) (by simp [ne1, ne2, ne3, ne4]))); exact ⟨k0, k1, k2⟩))
          (fail)
        all_goals
          go_wp2_with fail
          refine bodyPost_ret (v := .tuple #[.agg #[.slice a' n cap'], .int .i64 f, .int .i64 c, .agg #[.int .i64 x, .int .i64 y]]) (by simp [results, Try.results10, go_sem, *]) rfl ⟨a', n, cap', L, f, c, x, y, rfl, ?_, hf, hc, hx, hy, ?_⟩
          · first
              | exact Sgs.later (sgs_far0 (sgs_far0 (sgs_far0 SW.out NB0.out _ _) NB1.out _ _) NB1.out _ _) ((Later.refl _).drew)
              | exact Sgs.later (sgs_far0 (sgs_far0 (sgs_far0 SW.out NB1.out _ _) NB1.out _ _) NB0.out _ _) ((Later.refl _).drew)
          · exact Later.drew (Later.setCell (Later.setCell (Later.setCell BW.out (by simp) _) (by simp) _) (by simp) _)
    · have HR : Hid (((decide (0 ≤ f) && decide (f ≤ (n : Int) - 1)) && (decide (0 ≤ c) && decide (c ≤ 24))) = false) := Lib.hid (by simpa using hr)
      clear hr
      refine (s_Range a' n cap' f c false _ hnm HR.out).mono ?_
      rintro e w5 ⟨rfl, hb⟩
      have D5 := Lib.hid (D4.out.later hb)
      clear hb q2
      go_wp2_with fail
      refine into (fun W => DL [(w3.heap.size, 0, .int .i64 x), (w3.heap.size, 1, .int .i64 y), (w2.heap.size, 0, .slice a' n cap')] w.heap.size a' n L (w.heap.size + 1 + 1) a len cap w1 W) D5.out ?_
      intro W hW
      obtain ⟨k0, j0⟩ := hW.1.at w3.heap.size 0 (.int .i64 x) (by simp)
      obtain ⟨k1, j1⟩ := hW.1.at w3.heap.size 1 (.int .i64 y) (by simp)
      obtain ⟨k2, j2⟩ := hW.1.at w2.heap.size 0 (.slice a' n cap') (by simp)
      obtain ⟨m0, m1⟩ := Fr.o1 (fr_keptD G1.out hW.1.grown (fun e => by have := Option.some.inj e; omega))
      obtain ⟨m2, m3, m4, m5⟩ := Fr.o2 (fr_keptD G2.out hW.1.grown (fun e => by have := Option.some.inj e; omega))
      have BW : Hid (Later w W) := Lib.hid (Below.grown B1.out hW.1.grown B1.out.size (fun k h => by have := Option.some.inj h; omega))
      have SW := Lib.hid hW.sg
      clear hW D2 D3
      have ne1 : w.heap.size ≠ w3.heap.size := by omega
      have ne2 : w.heap.size ≠ w2.heap.size := by omega
      have ne3 : w.heap.size + 1 ≠ w3.heap.size := by omega
      have ne4 : w.heap.size + 1 ≠ w2.heap.size := by omega
      go_region_held3 (fun w' => w'.cell? ⟨w3.heap.size, 0, none⟩ = some (.int .i64 x) ∧ w'.cell? ⟨w3.heap.size, 1, none⟩ = some (.int .i64 y) ∧ w'.cell? ⟨w2.heap.size, 0, none⟩ = some (.slice a' n cap'))
        (((repeat (refine keep3 ?_ _ _ (by simp [ne1, ne2, ne3, ne4]) (by simp [ne1, ne2, ne3, ne4]))); exact ⟨k0, k1, k2⟩))
        (fail)
      all_goals
        go_wp2_with fail
        refine bodyPost_ret (v := .tuple #[.agg #[.slice a' n cap'], .int .i64 f, .int .i64 c, .agg #[.int .i64 x, .int .i64 y]]) (by simp [results, Try.results10, go_sem, *]) rfl ⟨a', n, cap', L, f, c, x, y, rfl, ?_, hf, hc, hx, hy, ?_⟩
        · first
            | exact Sgs.later (sgs_far0 (sgs_far0 (sgs_far0 SW.out NB0.out _ _) NB1.out _ _) NB1.out _ _) ((Later.refl _).drew)
            | exact Sgs.later (sgs_far0 (sgs_far0 (sgs_far0 SW.out NB1.out _ _) NB1.out _ _) NB0.out _ _) ((Later.refl _).drew)
        · exact Later.drew (Later.setCell (Later.setCell (Later.setCell BW.out (by simp) _) (by simp) _) (by simp) _)
end Go.Proofs.Ytnmlkigpiaekjaa
