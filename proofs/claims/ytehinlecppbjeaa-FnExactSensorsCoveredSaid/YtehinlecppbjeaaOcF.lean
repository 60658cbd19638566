/- The walks of the exact laws of chapter 5 on sensors. -/
import Derived.Test.YtehinlecppbjeaaExT
import Derived.Test.YtehinlecppbjeaaOcC
import Derived.Test.YtehinlecppbjeaaOcX
import Derived.Test.YtehinlecppbjeaaSgC
import Derived.Test.YtehinlecppbjeaaMemO
import Derived.Test.YtehinlecppbjeaaMarkS
namespace Go.Proofs.Ytehinlecppbjeaa
open Go.RowKit
set_option maxHeartbeats 4000000
set_option linter.unusedVariables false
set_option linter.unusedSimpArgs false
theorem cvV_len (L : List Sg) (S : List Int) (p n : Int) : (cvV L S p n).length ≤ 1000000 := by
  unfold cvV
  split
  · rename_i h
    have := ((senB_iff L S).1 (cvE_ok h).1).2.1
    have := cvK_len (totL L) S p n S.length
    omega
  · simp
theorem psV_len (L : List Sg) (S : List Int) (p n : Int) : (psV L S p n).length ≤ 1000000 := by
  unfold psV
  split
  · rename_i h
    have := ((senB_iff L S).1 (psE_ok h).1).2.1
    unfold psK
    have h1 := onI_len S (p + 1) (min (p + n) (totL L - 1)) S.length
    have h2 := onI_len S 0 (p + n - totL L) S.length
    rw [List.length_append]; omega
  · simp
set_option maxRecDepth 100000 in
theorem walk_FnExactSensorsCovered (a : Option Addr) (n cap : Nat) (L : List Sg) (A1 : Option Addr) (m1 c1 : Nat) (Z1 : List Int) (p : Int) (q : Int) (w : World) (hcap : n ≤ cap) (hs : Sgs w a n L) (u1 : IsRow .i64 w A1 m1 c1 Z1) (u2 : (Lit.int .i64 p).wf = true) (u3 : (Lit.int .i64 q).wf = true) :
    Calls Try.prog 13 #[.agg #[.slice a n cap], .slice A1 m1 c1, .int .i64 p, .int .i64 q] w fun e w' => e = .returned (.bool true) ∧ Later w w' := by
  have HS := Lib.hid hs
  have hn := hs.2.1
  have HLn := Lib.hid hs.1
  have hle1 := isRow_leE u1
  obtain ⟨F, hF⟩ : ∃ F, F = Z1.take m1 := ⟨_, rfl⟩
  have HF := Lib.hid (isRow_sl u1)
  rw [← hF] at HF
  have hm1 := HF.out.2.1
  have HM1 := Lib.hid HF.out.1
  clear u1 hF
  obtain ⟨v2, v2'⟩ := i64w u2
  clear u2
  obtain ⟨v3, v3'⟩ := i64w u3
  clear u3
  clear hs
  have e0 : (cvE L F p q != cvE L F p q) = false := by simp
  have hlen : (cvV L F p q).length ≤ 1000000 := cvV_len L F p q
  by_cases hb1 : 1048576 < m1
  · go_enter Try.func13, Try.ntmps13
    go_wp2
    go_ret
    exact ⟨rfl, (by repeat (first | (with_reducible exact Later.refl _) | (with_reducible exact Hid.out (by assumption)) | (with_reducible refine Later.alloc ?_ _) | (with_reducible refine Later.setCell ?_ (by simp; omega) _) | (with_reducible refine Later.setCell ?_ (by simp) _) | (with_reducible refine Later.drewN ?_ _) | (with_reducible refine Later.drew ?_) | (with_reducible refine Later.trans ?_ (Hid.out (by assumption)))))⟩
  have hb1' : m1 ≤ 1048576 := by omega
  by_cases hbig : 1048576 < n
  · have hz := Lib.hid (szI_big hbig)
    go_enter Try.func13, Try.ntmps13
    go_wp2_with (go_at_call 47; refine (l_szLayout a n cap _ hn).mono ?_; rw [hz.out]; rintro e w1 ⟨rfl, hb⟩; have H := Lib.hid hb; clear hb)
    go_ret
    exact ⟨rfl, (by repeat (first | (with_reducible exact Later.refl _) | (with_reducible exact Hid.out (by assumption)) | (with_reducible refine Later.alloc ?_ _) | (with_reducible refine Later.setCell ?_ (by simp; omega) _) | (with_reducible refine Later.setCell ?_ (by simp) _) | (with_reducible refine Later.drewN ?_ _) | (with_reducible refine Later.drew ?_) | (with_reducible refine Later.trans ?_ (Hid.out (by assumption)))))⟩
  have hle : n ≤ 1048576 := by omega
  have hz := Lib.hid (szI_ok hle)
  clear hbig hb1
  go_enter Try.func13, Try.ntmps13
  go_wp2_with fail
  refine (l_szLayout a n cap _ hn).mono ?_
  rw [hz.out]
  rintro e w1 ⟨rfl, hb⟩
  have b1 : w.heap.size < w1.heap.size := by have := hb.size; simp at this; omega
  have c1 : w1.cell? ⟨w.heap.size, 0, none⟩ = some (.slice a n cap) := by rw [hb.cell (p := ⟨w.heap.size, 0, none⟩) (by simp)]; simp
  have W1 : Hid (Later w w1) := Lib.hid (((Later.refl _).alloc _).trans hb)
  clear hb
  go_wp2_with fail
  refine (l_toLayout a n cap L _ (HS.out.later W1.out) hle).mono ?_
  rintro e w2 ⟨g, rfl, hg, hr, hb⟩
  have hb : Later w1 w2 := hb
  have z2 := hb.size
  have b2 : w.heap.size < w2.heap.size := Nat.lt_of_lt_of_le b1 z2
  have c2 : w2.cell? ⟨w.heap.size, 0, none⟩ = some (.slice a n cap) := by rw [hb.cell (p := ⟨w.heap.size, 0, none⟩) b1]; exact c1
  have W2 : Hid (Later w w2) := Lib.hid (W1.out.trans hb)
  have S0 := Lib.hid (hr.sgs HS.out.1 (by omega) HS.out.2.2.2)
  clear hb c1 hr hg
  go_wp2_with fail
  refine (l_toInt64S A1 m1 c1 F _ (HF.out.laterE W2.out) hb1').mono ?_
  rintro e w3 ⟨g1, rfl, hg, hr, hs, hb⟩
  have hb : Later w2 w3 := hb
  have z3 := hb.size
  have b3 : w.heap.size < w3.heap.size := Nat.lt_of_lt_of_le b2 z3
  have c3 : w3.cell? ⟨w.heap.size, 0, none⟩ = some (.slice a n cap) := by rw [hb.cell (p := ⟨w.heap.size, 0, none⟩) b2]; exact c2
  have W3 : Hid (Later w w3) := Lib.hid (W2.out.trans hb)
  have S0_3 := Lib.hid (S0.out.later hb)
  have T1 := Lib.hid hs
  clear hb c2 hg hr hs
  go_wp2_with fail
  refine (s_SensorsCovered _ n n L _ m1 m1 F p q _ S0_3.out T1.out).mono ?_
  rintro e w4 ⟨vs, rfl, hos, hb⟩
  have hb : Later w3 w4 := hb
  have z4 := hb.size
  have b4 : w.heap.size < w4.heap.size := Nat.lt_of_lt_of_le b3 z4
  have c4 : w4.cell? ⟨w.heap.size, 0, none⟩ = some (.slice a n cap) := by rw [hb.cell (p := ⟨w.heap.size, 0, none⟩) b3]; exact c3
  have W4 : Hid (Later w w4) := Lib.hid (W3.out.trans hb)
  have S0_4 := Lib.hid (S0_3.out.later hb)
  have T1_4 := Lib.hid (T1.out.laterE hb)
  have OS := Lib.hid hos
  have RS := Lib.hid hos.lt
  clear hb c3 hos
  go_wp2_with fail
  refine (l_toLayout a n cap L _ (HS.out.later W4.out) hle).mono ?_
  rintro e w5 ⟨gx0, rfl, hgx, hr, hb⟩
  have hb : Later w4 w5 := hb
  have z5 := hb.size
  have b5 : w.heap.size < w5.heap.size := Nat.lt_of_lt_of_le b4 z5
  have c5 : w5.cell? ⟨w.heap.size, 0, none⟩ = some (.slice a n cap) := by rw [hb.cell (p := ⟨w.heap.size, 0, none⟩) b4]; exact c4
  have W5 : Hid (Later w w5) := Lib.hid (W4.out.trans hb)
  have OS_5 := Lib.hid (OS.out.laterE hb)
  have X0 := Lib.hid hr
  have X0l := hr.lt
  clear hb c4 hr
  go_wp2_with fail
  refine (l_toInt64O A1 m1 c1 F _ (HF.out.laterE (W5.out.alloc _)) hb1').mono ?_
  rintro e w6 ⟨y1, rfl, hy1, hy1', ho, hb⟩
  have hb : Later (w5.alloc (.cells #[.slice (some ⟨gx0, 0, none⟩) n n] 26)) w6 := hb
  have z6 : w5.heap.size + 1 ≤ w6.heap.size := by have := hb.size; rw [World.size_alloc] at this; exact this
  have b6 : w5.heap.size < w6.heap.size := by omega
  have c6 : w6.cell? ⟨w.heap.size, 0, none⟩ = some (.slice a n cap) := (hb.cell (p := ⟨w.heap.size, 0, none⟩) (by rw [World.size_alloc]; exact Nat.lt_succ_of_lt b5)).trans ((World.cell?_alloc_lt w5 _ ⟨w.heap.size, 0, none⟩ b5).trans c5)
  have d6 : w6.cell? ⟨w5.heap.size, 0, none⟩ = some (.slice (some ⟨gx0, 0, none⟩) n n) := by rw [hb.cell (p := ⟨w5.heap.size, 0, none⟩) (by simp)]; simp
  have W6 : Hid (Later w w6) := Lib.hid ((W5.out.alloc _).trans hb)
  have hbx : Later w5 w6 := ((Later.refl _).alloc _).trans hb
  have OS_6 := Lib.hid (OS_5.out.laterE hbx)
  have X0_6 := Lib.hid (X0.out.later hbx)
  have Y1 := Lib.hid ho
  rw [World.size_alloc] at hy1
  clear hb hbx c5 ho
  go_wp2_with fail
  refine (i_SensorsCovered _ n n L _ m1 m1 F p q _ (X0_6.out.sgs HS.out.1 (by omega) HS.out.2.2.2) (own_slE Y1.out HM1.out) ⟨v2, v2'⟩).mono ?_
  rintro e w7 ⟨vi, rfl, hoi, hb⟩
  have hb : Later w6 w7 := hb
  have z7 := hb.size
  have b7 : w5.heap.size < w7.heap.size := Nat.lt_of_lt_of_le b6 z7
  obtain ⟨c7, d7⟩ := two_cells c6 (Nat.lt_trans b5 b6) d6 b6 hb
  have W7 : Hid (Later w w7) := Lib.hid (W6.out.trans hb)
  have OS_7 := Lib.hid (OS_6.out.laterE hb)
  have X0_7 := Lib.hid (X0_6.out.later hb)
  have Y1_7 := Lib.hid (Y1.out.laterE hb)
  have OI := Lib.hid hoi
  have RI := Lib.hid hoi.lt
  clear hb c6 d6 hoi
  obtain ⟨aS, ks, rfl, s1, _⟩ := OS_7.out.sl
  obtain ⟨ai, ki, rfl, s2, _⟩ := OI.out.sl
  have S1 := Lib.hid s1; have S2 := Lib.hid s2
  clear s1 s2
  go_wp2_with fail
  refine (l_eqIE _ _ _ _ _ _ _ _ S2.out S1.out).mono ?_
  rintro e w8 ⟨rfl, hb⟩
  have hb : Later w7 w8 := hb
  have z8 := hb.size
  have b8 : w5.heap.size < w8.heap.size := Nat.lt_of_lt_of_le b7 z8
  obtain ⟨c8, d8⟩ := two_cells c7 (Nat.lt_trans b5 b7) d7 b7 hb
  have W8 : Hid (Later w w8) := Lib.hid (W7.out.trans hb)
  have OS_8 := Lib.hid (OS_7.out.laterE hb)
  have X0_8 := Lib.hid (X0_7.out.later hb)
  have Y1_8 := Lib.hid (Y1_7.out.laterE hb)
  have OI_8 := Lib.hid (OI.out.laterE hb)
  skip
  clear hb c7 d7 S1 S2
  have K8 := Lib.hid (And.intro c8 d8)
  clear c8 d8
  obtain ⟨c8, d8⟩ := K8.out
  go_wp2_with fail
  go_region_held3 (fun w' => w'.cell? ⟨w.heap.size, 0, none⟩ = some (.slice a n cap) ∧ w'.cell? ⟨w5.heap.size, 0, none⟩ = some (.slice (some ⟨gx0, 0, none⟩) n n))
    (exact two_cells K8.out.1 (Nat.lt_trans b5 b8) K8.out.2 b8 (by repeat (first | (with_reducible exact Later.refl _) | (with_reducible exact Hid.out (by assumption)) | (with_reducible refine Later.alloc ?_ _) | (with_reducible refine Later.setCell ?_ (by simp; omega) _) | (with_reducible refine Later.setCell ?_ (by simp) _) | (with_reducible refine Later.drewN ?_ _) | (with_reducible refine Later.drew ?_) | (with_reducible refine Later.trans ?_ (Hid.out (by assumption))))))
    (first
      | (go_at_call 48; refine (l_toLayout a n cap L _ (HS.out.later (by repeat (first | (with_reducible exact Later.refl _) | (with_reducible exact Hid.out (by assumption)) | (with_reducible refine Later.alloc ?_ _) | (with_reducible refine Later.setCell ?_ (by simp; omega) _) | (with_reducible refine Later.setCell ?_ (by simp) _) | (with_reducible refine Later.drewN ?_ _) | (with_reducible refine Later.drew ?_) | (with_reducible refine Later.trans ?_ (Hid.out (by assumption)))))) hle).mono ?_; rintro e wp ⟨gp, rfl, hgp, hrp, hbp⟩; have HP := Lib.hid hbp; have SP := Lib.hid (hrp.sgs HS.out.1 (by omega) HS.out.2.2.2); clear hbp hrp hgp)
      | (go_at_call 49; refine (l_eqLayout_same _ _ n n n n L _ ((X0_8.out.sgs HS.out.1 (by omega) HS.out.2.2.2).later (by repeat (first | (with_reducible exact Later.refl _) | (with_reducible exact Hid.out (by assumption)) | (with_reducible refine Later.alloc ?_ _) | (with_reducible refine Later.setCell ?_ (by simp; omega) _) | (with_reducible refine Later.setCell ?_ (by simp) _) | (with_reducible refine Later.drewN ?_ _) | (with_reducible refine Later.drew ?_) | (with_reducible refine Later.trans ?_ (Hid.out (by assumption)))))) (SP.out.later (by repeat (first | (with_reducible exact Later.refl _) | (with_reducible exact Hid.out (by assumption)) | (with_reducible refine Later.alloc ?_ _) | (with_reducible refine Later.setCell ?_ (by simp; omega) _) | (with_reducible refine Later.setCell ?_ (by simp) _) | (with_reducible refine Later.drewN ?_ _) | (with_reducible refine Later.drew ?_) | (with_reducible refine Later.trans ?_ (Hid.out (by assumption))))))).mono ?_; rintro e wq ⟨rfl, hbq⟩; have HQ := Lib.hid hbq; clear hbq))
  all_goals
    go_wp2_with fail
    refine calls_into (fun W => Later w8 W) (by repeat (first | (with_reducible exact Later.refl _) | (with_reducible exact Hid.out (by assumption)) | (with_reducible refine Later.alloc ?_ _) | (with_reducible refine Later.setCell ?_ (by simp; omega) _) | (with_reducible refine Later.setCell ?_ (by simp) _) | (with_reducible refine Later.drewN ?_ _) | (with_reducible refine Later.drew ?_) | (with_reducible refine Later.trans ?_ (Hid.out (by assumption))))) ?_
    intro w9 hb
    have z9 := hb.size
    have b9 : w5.heap.size < w9.heap.size := Nat.lt_of_lt_of_le b8 z9
    have W9 : Hid (Later w w9) := Lib.hid (W8.out.trans hb)
    obtain ⟨c9, d9⟩ := two_cells c8 (Nat.lt_trans b5 b8) d8 b8 hb
    have OS_9 := Lib.hid (OS_8.out.laterE hb)
    have X0_9 := Lib.hid (X0_8.out.later hb)
    have Y1_9 := Lib.hid (Y1_8.out.laterE hb)
    have OI_9 := Lib.hid (OI_8.out.laterE hb)
    clear hb c8 d8 K8
    refine (l_toInt64S A1 m1 c1 F _ (HF.out.laterE W9.out) hb1').mono ?_
    rintro e w10 ⟨q1, rfl, hg, hr, hs, hb⟩
    have hb : Later w9 w10 := hb
    have z10 := hb.size
    have b10 : w5.heap.size < w10.heap.size := Nat.lt_of_lt_of_le b9 z10
    have W10 : Hid (Later w w10) := Lib.hid (W9.out.trans hb)
    obtain ⟨c10, d10⟩ := two_cells c9 (Nat.lt_trans b5 b9) d9 b9 hb
    have OS_10 := Lib.hid (OS_9.out.laterE hb)
    have X0_10 := Lib.hid (X0_9.out.later hb)
    have Y1_10 := Lib.hid (Y1_9.out.laterE hb)
    have OI_10 := Lib.hid (OI_9.out.laterE hb)
    have Q1 := Lib.hid hs
    clear hb c9 d9 hg hr hs
    go_wp2_with fail
    refine (l_eqIE _ _ m1 m1 m1 m1 F _ (own_slE Y1_10.out HM1.out) Q1.out).mono ?_
    rintro e w11 ⟨rfl, hb⟩
    have hb : Later w10 w11 := hb
    have z11 := hb.size
    have b11 : w5.heap.size < w11.heap.size := Nat.lt_of_lt_of_le b10 z11
    have W11 : Hid (Later w w11) := Lib.hid (W10.out.trans hb)
    obtain ⟨c11, d11⟩ := two_cells c10 (Nat.lt_trans b5 b10) d10 b10 hb
    have OS_11 := Lib.hid (OS_10.out.laterE hb)
    have X0_11 := Lib.hid (X0_10.out.later hb)
    have Y1_11 := Lib.hid (Y1_10.out.laterE hb)
    have OI_11 := Lib.hid (OI_10.out.laterE hb)
    skip
    clear hb c10 d10 Q1
    go_wp2_with fail
    refine (l_markLayout gx0 n n (flt L) _ X0_11.out hle).mono ?_
    rintro e w12 ⟨rfl, hr, hg⟩
    have z12 := hg.size
    have b12 : w5.heap.size < w12.heap.size := Nat.lt_of_lt_of_le b11 z12
    have W12 : Hid (Later w w12) := Lib.hid (later_growE W11.out hg (fun k e => by have h9 := Option.some.inj e; omega))
    have c12 : w12.cell? ⟨w.heap.size, 0, none⟩ = some (.slice a n cap) := hg.cell c11 (fun e => by have h9 := Option.some.inj e; simp at h9; omega)
    have OS_12 := Lib.hid (OS_11.out.keptE hg (fun k hk e => by have h1 := RS.out k hk; have h9 := Option.some.inj e; omega))
    have Y1_12 := Lib.hid (Y1_11.out.keptE hg (fun k hk e => by have h1 : y1 = k := Option.some.inj hk; have h9 := Option.some.inj e; omega))
    have OI_12 := Lib.hid (OI_11.out.keptE hg (fun k hk e => by have h1 := RI.out k hk; have h9 := Option.some.inj e; omega))
    clear hg hr c11
    go_wp2_with fail
    refine (l_markK y1 m1 m1 _ (1 + 7 * (n : Int)) F _ Y1_12.out HM1.out (by omega) (by omega) (by omega)).mono ?_
    rintro e w13 ⟨rfl, hg⟩
    have z13 := hg.size
    have b13 : w5.heap.size < w13.heap.size := Nat.lt_of_lt_of_le b12 z13
    have W13 : Hid (Later w w13) := Lib.hid (later_growE W12.out hg (fun k e => by have h9 := Option.some.inj e; omega))
    have c13 : w13.cell? ⟨w.heap.size, 0, none⟩ = some (.slice a n cap) := hg.cell c12 (fun e => by have h9 := Option.some.inj e; simp at h9; omega)
    have OS_13 := Lib.hid (OS_12.out.keptE hg (fun k hk e => by have h1 := RS.out k hk; have h9 := Option.some.inj e; omega))
    have OI_13 := Lib.hid (OI_12.out.keptE hg (fun k hk e => by have h1 := RI.out k hk; have h9 := Option.some.inj e; omega))
    clear hg c12
    obtain ⟨a1, k1, e1, s1, _⟩ := OS_13.out.sl
    obtain ⟨a2, k2, e2, s2, _⟩ := OI_13.out.sl
    cases e1; cases e2
    have S1 := Lib.hid s1; have S2 := Lib.hid s2
    clear s1 s2
    go_wp2_with fail
    refine (l_eqIE _ _ _ _ _ _ _ _ S2.out S1.out).mono ?_
    rintro e w14 ⟨rfl, hb⟩
    have hb : Later w13 w14 := hb
    have z14 := hb.size
    have b14 : w5.heap.size < w14.heap.size := Nat.lt_of_lt_of_le b13 z14
    have W14 : Hid (Later w w14) := Lib.hid (W13.out.trans hb)
    have c14 : w14.cell? ⟨w.heap.size, 0, none⟩ = some (.slice a n cap) := by rw [hb.cell (p := ⟨w.heap.size, 0, none⟩) (Nat.lt_trans b5 b13)]; exact c13
    have OS_14 := Lib.hid (OS_13.out.laterE hb)
    have OI_14 := Lib.hid (OI_13.out.laterE hb)
    skip
    clear hb c13 S1 S2
    go_wp2_with fail
    refine (l_markInt64S _ _ _ _ OI_14.out (by omega)).mono ?_
    rintro e w15 ⟨rfl, ho, hg⟩
    have z15 := hg.size
    have b15 : w5.heap.size < w15.heap.size := Nat.lt_of_lt_of_le b14 z15
    have W15 : Hid (Later w w15) := Lib.hid (later_growE W14.out hg (fun k e => by have h9 := RI.out _ e; omega))
    have c15 : w15.cell? ⟨w.heap.size, 0, none⟩ = some (.slice a n cap) := hg.cell c14 (fun e => by have h9 := RI.out _ e.symm; simp at h9; omega)
    have OS_15 := Lib.hid (OS_14.out.keptE hg (fun k hk e => by have h1 := RS.out k hk; have h9 := RI.out _ e; omega))
    have MI := Lib.hid ho
    clear ho hg c14
    go_wp2_with fail
    refine (l_heldInt64S _ _ _ _ MI.out (by omega)).mono ?_
    rintro e w' ⟨rfl, rfl⟩
    go_wp2_with fail
    refine (l_toLayout a n cap L _ (HS.out.later W15.out) hle).mono ?_
    rintro e w16 ⟨gl, rfl, hg, hr, hb⟩
    have hb : Later w15 w16 := hb
    have z16 := hb.size
    have b16 : w5.heap.size < w16.heap.size := Nat.lt_of_lt_of_le b15 z16
    have W16 : Hid (Later w w16) := Lib.hid (W15.out.trans hb)
    have c16 : w16.cell? ⟨w.heap.size, 0, none⟩ = some (.slice a n cap) := by rw [hb.cell (p := ⟨w.heap.size, 0, none⟩) (Nat.lt_trans b5 b15)]; exact c15
    have OS_16 := Lib.hid (OS_15.out.laterE hb)
    have MI_16 := Lib.hid (MI.out.laterE hb)
    have SZ := Lib.hid (hr.sgs HS.out.1 (by omega) HS.out.2.2.2)
    clear hb c15 hr hg
    go_wp2_with fail
    refine (l_toInt64S A1 m1 c1 F _ (HF.out.laterE W16.out) hb1').mono ?_
    rintro e w17 ⟨p1, rfl, hg, hr, hs, hb⟩
    have hb : Later w16 w17 := hb
    have z17 := hb.size
    have b17 : w5.heap.size < w17.heap.size := Nat.lt_of_lt_of_le b16 z17
    have W17 : Hid (Later w w17) := Lib.hid (W16.out.trans hb)
    have OS_17 := Lib.hid (OS_16.out.laterE hb)
    have MI_17 := Lib.hid (MI_16.out.laterE hb)
    have SZ_17 := Lib.hid (SZ.out.later hb)
    have TZ1 := Lib.hid hs
    clear hb hg hr hs
    go_wp2_with fail
    refine (i_SensorsCovered _ n n L _ m1 m1 F p q _ SZ_17.out TZ1.out ⟨v2, v2'⟩).mono ?_
    rintro e w18 ⟨vz, rfl, hoz, hb⟩
    have hb : Later w17 w18 := hb
    have z18 := hb.size
    have b18 : w5.heap.size < w18.heap.size := Nat.lt_of_lt_of_le b17 z18
    have W18 : Hid (Later w w18) := Lib.hid (W17.out.trans hb)
    have OS_18 := Lib.hid (OS_17.out.laterE hb)
    have MI_18 := Lib.hid (MI_17.out.laterE hb)
    have SZ_18 := Lib.hid (SZ_17.out.later hb)
    have TZ1_18 := Lib.hid (TZ1.out.laterE hb)
    obtain ⟨az, kz, rfl, s9, _⟩ := hoz.sl
    have S9 := Lib.hid s9
    clear hb hoz s9
    obtain ⟨a3, k3, e3, s3, _⟩ := OS_18.out.sl
    cases e3
    have S3 := Lib.hid s3
    clear s3
    go_wp2_with fail
    refine (l_eqIE _ _ _ _ _ _ _ _ S9.out S3.out).mono ?_
    rintro e w19 ⟨rfl, hb⟩
    have hb : Later w18 w19 := hb
    have z19 := hb.size
    have b19 : w5.heap.size < w19.heap.size := Nat.lt_of_lt_of_le b18 z19
    have W19 : Hid (Later w w19) := Lib.hid (W18.out.trans hb)
    have OS_19 := Lib.hid (OS_18.out.laterE hb)
    have MI_19 := Lib.hid (MI_18.out.laterE hb)
    have SZ_19 := Lib.hid (SZ_18.out.later hb)
    have TZ1_19 := Lib.hid (TZ1_18.out.laterE hb)
    skip
    clear hb
    go_wp2_with fail
    refine (l_heldInt64S _ _ _ _ MI_19.out (by omega)).mono ?_
    rintro e w' ⟨rfl, rfl⟩
    go_wp2_with fail
    go_ret
    exact ⟨rfl, W19.out⟩

set_option maxRecDepth 100000 in
theorem walk_FnExactSensorsPassed (a : Option Addr) (n cap : Nat) (L : List Sg) (A1 : Option Addr) (m1 c1 : Nat) (Z1 : List Int) (p : Int) (q : Int) (w : World) (hcap : n ≤ cap) (hs : Sgs w a n L) (u1 : IsRow .i64 w A1 m1 c1 Z1) (u2 : (Lit.int .i64 p).wf = true) (u3 : (Lit.int .i64 q).wf = true) :
    Calls Try.prog 14 #[.agg #[.slice a n cap], .slice A1 m1 c1, .int .i64 p, .int .i64 q] w fun e w' => e = .returned (.bool true) ∧ Later w w' := by
  have HS := Lib.hid hs
  have hn := hs.2.1
  have HLn := Lib.hid hs.1
  have hle1 := isRow_leE u1
  obtain ⟨F, hF⟩ : ∃ F, F = Z1.take m1 := ⟨_, rfl⟩
  have HF := Lib.hid (isRow_sl u1)
  rw [← hF] at HF
  have hm1 := HF.out.2.1
  have HM1 := Lib.hid HF.out.1
  clear u1 hF
  obtain ⟨v2, v2'⟩ := i64w u2
  clear u2
  obtain ⟨v3, v3'⟩ := i64w u3
  clear u3
  clear hs
  have e0 : (psE L F p q != psE L F p q) = false := by simp
  have hlen : (psV L F p q).length ≤ 1000000 := psV_len L F p q
  by_cases hb1 : 1048576 < m1
  · go_enter Try.func14, Try.ntmps14
    go_wp2
    go_ret
    exact ⟨rfl, (by repeat (first | (with_reducible exact Later.refl _) | (with_reducible exact Hid.out (by assumption)) | (with_reducible refine Later.alloc ?_ _) | (with_reducible refine Later.setCell ?_ (by simp; omega) _) | (with_reducible refine Later.setCell ?_ (by simp) _) | (with_reducible refine Later.drewN ?_ _) | (with_reducible refine Later.drew ?_) | (with_reducible refine Later.trans ?_ (Hid.out (by assumption)))))⟩
  have hb1' : m1 ≤ 1048576 := by omega
  by_cases hbig : 1048576 < n
  · have hz := Lib.hid (szI_big hbig)
    go_enter Try.func14, Try.ntmps14
    go_wp2_with (go_at_call 47; refine (l_szLayout a n cap _ hn).mono ?_; rw [hz.out]; rintro e w1 ⟨rfl, hb⟩; have H := Lib.hid hb; clear hb)
    go_ret
    exact ⟨rfl, (by repeat (first | (with_reducible exact Later.refl _) | (with_reducible exact Hid.out (by assumption)) | (with_reducible refine Later.alloc ?_ _) | (with_reducible refine Later.setCell ?_ (by simp; omega) _) | (with_reducible refine Later.setCell ?_ (by simp) _) | (with_reducible refine Later.drewN ?_ _) | (with_reducible refine Later.drew ?_) | (with_reducible refine Later.trans ?_ (Hid.out (by assumption)))))⟩
  have hle : n ≤ 1048576 := by omega
  have hz := Lib.hid (szI_ok hle)
  clear hbig hb1
  go_enter Try.func14, Try.ntmps14
  go_wp2_with fail
  refine (l_szLayout a n cap _ hn).mono ?_
  rw [hz.out]
  rintro e w1 ⟨rfl, hb⟩
  have b1 : w.heap.size < w1.heap.size := by have := hb.size; simp at this; omega
  have c1 : w1.cell? ⟨w.heap.size, 0, none⟩ = some (.slice a n cap) := by rw [hb.cell (p := ⟨w.heap.size, 0, none⟩) (by simp)]; simp
  have W1 : Hid (Later w w1) := Lib.hid (((Later.refl _).alloc _).trans hb)
  clear hb
  go_wp2_with fail
  refine (l_toLayout a n cap L _ (HS.out.later W1.out) hle).mono ?_
  rintro e w2 ⟨g, rfl, hg, hr, hb⟩
  have hb : Later w1 w2 := hb
  have z2 := hb.size
  have b2 : w.heap.size < w2.heap.size := Nat.lt_of_lt_of_le b1 z2
  have c2 : w2.cell? ⟨w.heap.size, 0, none⟩ = some (.slice a n cap) := by rw [hb.cell (p := ⟨w.heap.size, 0, none⟩) b1]; exact c1
  have W2 : Hid (Later w w2) := Lib.hid (W1.out.trans hb)
  have S0 := Lib.hid (hr.sgs HS.out.1 (by omega) HS.out.2.2.2)
  clear hb c1 hr hg
  go_wp2_with fail
  refine (l_toInt64S A1 m1 c1 F _ (HF.out.laterE W2.out) hb1').mono ?_
  rintro e w3 ⟨g1, rfl, hg, hr, hs, hb⟩
  have hb : Later w2 w3 := hb
  have z3 := hb.size
  have b3 : w.heap.size < w3.heap.size := Nat.lt_of_lt_of_le b2 z3
  have c3 : w3.cell? ⟨w.heap.size, 0, none⟩ = some (.slice a n cap) := by rw [hb.cell (p := ⟨w.heap.size, 0, none⟩) b2]; exact c2
  have W3 : Hid (Later w w3) := Lib.hid (W2.out.trans hb)
  have S0_3 := Lib.hid (S0.out.later hb)
  have T1 := Lib.hid hs
  clear hb c2 hg hr hs
  go_wp2_with fail
  refine (s_SensorsPassed _ n n L _ m1 m1 F p q _ S0_3.out T1.out).mono ?_
  rintro e w4 ⟨vs, rfl, hos, hb⟩
  have hb : Later w3 w4 := hb
  have z4 := hb.size
  have b4 : w.heap.size < w4.heap.size := Nat.lt_of_lt_of_le b3 z4
  have c4 : w4.cell? ⟨w.heap.size, 0, none⟩ = some (.slice a n cap) := by rw [hb.cell (p := ⟨w.heap.size, 0, none⟩) b3]; exact c3
  have W4 : Hid (Later w w4) := Lib.hid (W3.out.trans hb)
  have S0_4 := Lib.hid (S0_3.out.later hb)
  have T1_4 := Lib.hid (T1.out.laterE hb)
  have OS := Lib.hid hos
  have RS := Lib.hid hos.lt
  clear hb c3 hos
  go_wp2_with fail
  refine (l_toLayout a n cap L _ (HS.out.later W4.out) hle).mono ?_
  rintro e w5 ⟨gx0, rfl, hgx, hr, hb⟩
  have hb : Later w4 w5 := hb
  have z5 := hb.size
  have b5 : w.heap.size < w5.heap.size := Nat.lt_of_lt_of_le b4 z5
  have c5 : w5.cell? ⟨w.heap.size, 0, none⟩ = some (.slice a n cap) := by rw [hb.cell (p := ⟨w.heap.size, 0, none⟩) b4]; exact c4
  have W5 : Hid (Later w w5) := Lib.hid (W4.out.trans hb)
  have OS_5 := Lib.hid (OS.out.laterE hb)
  have X0 := Lib.hid hr
  have X0l := hr.lt
  clear hb c4 hr
  go_wp2_with fail
  refine (l_toInt64O A1 m1 c1 F _ (HF.out.laterE (W5.out.alloc _)) hb1').mono ?_
  rintro e w6 ⟨y1, rfl, hy1, hy1', ho, hb⟩
  have hb : Later (w5.alloc (.cells #[.slice (some ⟨gx0, 0, none⟩) n n] 26)) w6 := hb
  have z6 : w5.heap.size + 1 ≤ w6.heap.size := by have := hb.size; rw [World.size_alloc] at this; exact this
  have b6 : w5.heap.size < w6.heap.size := by omega
  have c6 : w6.cell? ⟨w.heap.size, 0, none⟩ = some (.slice a n cap) := (hb.cell (p := ⟨w.heap.size, 0, none⟩) (by rw [World.size_alloc]; exact Nat.lt_succ_of_lt b5)).trans ((World.cell?_alloc_lt w5 _ ⟨w.heap.size, 0, none⟩ b5).trans c5)
  have d6 : w6.cell? ⟨w5.heap.size, 0, none⟩ = some (.slice (some ⟨gx0, 0, none⟩) n n) := by rw [hb.cell (p := ⟨w5.heap.size, 0, none⟩) (by simp)]; simp
  have W6 : Hid (Later w w6) := Lib.hid ((W5.out.alloc _).trans hb)
  have hbx : Later w5 w6 := ((Later.refl _).alloc _).trans hb
  have OS_6 := Lib.hid (OS_5.out.laterE hbx)
  have X0_6 := Lib.hid (X0.out.later hbx)
  have Y1 := Lib.hid ho
  rw [World.size_alloc] at hy1
  clear hb hbx c5 ho
  go_wp2_with fail
  refine (i_SensorsPassed _ n n L _ m1 m1 F p q _ (X0_6.out.sgs HS.out.1 (by omega) HS.out.2.2.2) (own_slE Y1.out HM1.out)).mono ?_
  rintro e w7 ⟨vi, rfl, hoi, hb⟩
  have hb : Later w6 w7 := hb
  have z7 := hb.size
  have b7 : w5.heap.size < w7.heap.size := Nat.lt_of_lt_of_le b6 z7
  obtain ⟨c7, d7⟩ := two_cells c6 (Nat.lt_trans b5 b6) d6 b6 hb
  have W7 : Hid (Later w w7) := Lib.hid (W6.out.trans hb)
  have OS_7 := Lib.hid (OS_6.out.laterE hb)
  have X0_7 := Lib.hid (X0_6.out.later hb)
  have Y1_7 := Lib.hid (Y1.out.laterE hb)
  have OI := Lib.hid hoi
  have RI := Lib.hid hoi.lt
  clear hb c6 d6 hoi
  obtain ⟨aS, ks, rfl, s1, _⟩ := OS_7.out.sl
  obtain ⟨ai, ki, rfl, s2, _⟩ := OI.out.sl
  have S1 := Lib.hid s1; have S2 := Lib.hid s2
  clear s1 s2
  go_wp2_with fail
  refine (l_eqIE _ _ _ _ _ _ _ _ S2.out S1.out).mono ?_
  rintro e w8 ⟨rfl, hb⟩
  have hb : Later w7 w8 := hb
  have z8 := hb.size
  have b8 : w5.heap.size < w8.heap.size := Nat.lt_of_lt_of_le b7 z8
  obtain ⟨c8, d8⟩ := two_cells c7 (Nat.lt_trans b5 b7) d7 b7 hb
  have W8 : Hid (Later w w8) := Lib.hid (W7.out.trans hb)
  have OS_8 := Lib.hid (OS_7.out.laterE hb)
  have X0_8 := Lib.hid (X0_7.out.later hb)
  have Y1_8 := Lib.hid (Y1_7.out.laterE hb)
  have OI_8 := Lib.hid (OI.out.laterE hb)
  skip
  clear hb c7 d7 S1 S2
  have K8 := Lib.hid (And.intro c8 d8)
  clear c8 d8
  obtain ⟨c8, d8⟩ := K8.out
  go_wp2_with fail
  go_region_held3 (fun w' => w'.cell? ⟨w.heap.size, 0, none⟩ = some (.slice a n cap) ∧ w'.cell? ⟨w5.heap.size, 0, none⟩ = some (.slice (some ⟨gx0, 0, none⟩) n n))
    (exact two_cells K8.out.1 (Nat.lt_trans b5 b8) K8.out.2 b8 (by repeat (first | (with_reducible exact Later.refl _) | (with_reducible exact Hid.out (by assumption)) | (with_reducible refine Later.alloc ?_ _) | (with_reducible refine Later.setCell ?_ (by simp; omega) _) | (with_reducible refine Later.setCell ?_ (by simp) _) | (with_reducible refine Later.drewN ?_ _) | (with_reducible refine Later.drew ?_) | (with_reducible refine Later.trans ?_ (Hid.out (by assumption))))))
    (first
      | (go_at_call 48; refine (l_toLayout a n cap L _ (HS.out.later (by repeat (first | (with_reducible exact Later.refl _) | (with_reducible exact Hid.out (by assumption)) | (with_reducible refine Later.alloc ?_ _) | (with_reducible refine Later.setCell ?_ (by simp; omega) _) | (with_reducible refine Later.setCell ?_ (by simp) _) | (with_reducible refine Later.drewN ?_ _) | (with_reducible refine Later.drew ?_) | (with_reducible refine Later.trans ?_ (Hid.out (by assumption)))))) hle).mono ?_; rintro e wp ⟨gp, rfl, hgp, hrp, hbp⟩; have HP := Lib.hid hbp; have SP := Lib.hid (hrp.sgs HS.out.1 (by omega) HS.out.2.2.2); clear hbp hrp hgp)
      | (go_at_call 49; refine (l_eqLayout_same _ _ n n n n L _ ((X0_8.out.sgs HS.out.1 (by omega) HS.out.2.2.2).later (by repeat (first | (with_reducible exact Later.refl _) | (with_reducible exact Hid.out (by assumption)) | (with_reducible refine Later.alloc ?_ _) | (with_reducible refine Later.setCell ?_ (by simp; omega) _) | (with_reducible refine Later.setCell ?_ (by simp) _) | (with_reducible refine Later.drewN ?_ _) | (with_reducible refine Later.drew ?_) | (with_reducible refine Later.trans ?_ (Hid.out (by assumption)))))) (SP.out.later (by repeat (first | (with_reducible exact Later.refl _) | (with_reducible exact Hid.out (by assumption)) | (with_reducible refine Later.alloc ?_ _) | (with_reducible refine Later.setCell ?_ (by simp; omega) _) | (with_reducible refine Later.setCell ?_ (by simp) _) | (with_reducible refine Later.drewN ?_ _) | (with_reducible refine Later.drew ?_) | (with_reducible refine Later.trans ?_ (Hid.out (by assumption))))))).mono ?_; rintro e wq ⟨rfl, hbq⟩; have HQ := Lib.hid hbq; clear hbq))
  all_goals
    go_wp2_with fail
    refine calls_into (fun W => Later w8 W) (by repeat (first | (with_reducible exact Later.refl _) | (with_reducible exact Hid.out (by assumption)) | (with_reducible refine Later.alloc ?_ _) | (with_reducible refine Later.setCell ?_ (by simp; omega) _) | (with_reducible refine Later.setCell ?_ (by simp) _) | (with_reducible refine Later.drewN ?_ _) | (with_reducible refine Later.drew ?_) | (with_reducible refine Later.trans ?_ (Hid.out (by assumption))))) ?_
    intro w9 hb
    have z9 := hb.size
    have b9 : w5.heap.size < w9.heap.size := Nat.lt_of_lt_of_le b8 z9
    have W9 : Hid (Later w w9) := Lib.hid (W8.out.trans hb)
    obtain ⟨c9, d9⟩ := two_cells c8 (Nat.lt_trans b5 b8) d8 b8 hb
    have OS_9 := Lib.hid (OS_8.out.laterE hb)
    have X0_9 := Lib.hid (X0_8.out.later hb)
    have Y1_9 := Lib.hid (Y1_8.out.laterE hb)
    have OI_9 := Lib.hid (OI_8.out.laterE hb)
    clear hb c8 d8 K8
    refine (l_toInt64S A1 m1 c1 F _ (HF.out.laterE W9.out) hb1').mono ?_
    rintro e w10 ⟨q1, rfl, hg, hr, hs, hb⟩
    have hb : Later w9 w10 := hb
    have z10 := hb.size
    have b10 : w5.heap.size < w10.heap.size := Nat.lt_of_lt_of_le b9 z10
    have W10 : Hid (Later w w10) := Lib.hid (W9.out.trans hb)
    obtain ⟨c10, d10⟩ := two_cells c9 (Nat.lt_trans b5 b9) d9 b9 hb
    have OS_10 := Lib.hid (OS_9.out.laterE hb)
    have X0_10 := Lib.hid (X0_9.out.later hb)
    have Y1_10 := Lib.hid (Y1_9.out.laterE hb)
    have OI_10 := Lib.hid (OI_9.out.laterE hb)
    have Q1 := Lib.hid hs
    clear hb c9 d9 hg hr hs
    go_wp2_with fail
    refine (l_eqIE _ _ m1 m1 m1 m1 F _ (own_slE Y1_10.out HM1.out) Q1.out).mono ?_
    rintro e w11 ⟨rfl, hb⟩
    have hb : Later w10 w11 := hb
    have z11 := hb.size
    have b11 : w5.heap.size < w11.heap.size := Nat.lt_of_lt_of_le b10 z11
    have W11 : Hid (Later w w11) := Lib.hid (W10.out.trans hb)
    obtain ⟨c11, d11⟩ := two_cells c10 (Nat.lt_trans b5 b10) d10 b10 hb
    have OS_11 := Lib.hid (OS_10.out.laterE hb)
    have X0_11 := Lib.hid (X0_10.out.later hb)
    have Y1_11 := Lib.hid (Y1_10.out.laterE hb)
    have OI_11 := Lib.hid (OI_10.out.laterE hb)
    skip
    clear hb c10 d10 Q1
    go_wp2_with fail
    refine (l_markLayout gx0 n n (flt L) _ X0_11.out hle).mono ?_
    rintro e w12 ⟨rfl, hr, hg⟩
    have z12 := hg.size
    have b12 : w5.heap.size < w12.heap.size := Nat.lt_of_lt_of_le b11 z12
    have W12 : Hid (Later w w12) := Lib.hid (later_growE W11.out hg (fun k e => by have h9 := Option.some.inj e; omega))
    have c12 : w12.cell? ⟨w.heap.size, 0, none⟩ = some (.slice a n cap) := hg.cell c11 (fun e => by have h9 := Option.some.inj e; simp at h9; omega)
    have OS_12 := Lib.hid (OS_11.out.keptE hg (fun k hk e => by have h1 := RS.out k hk; have h9 := Option.some.inj e; omega))
    have Y1_12 := Lib.hid (Y1_11.out.keptE hg (fun k hk e => by have h1 : y1 = k := Option.some.inj hk; have h9 := Option.some.inj e; omega))
    have OI_12 := Lib.hid (OI_11.out.keptE hg (fun k hk e => by have h1 := RI.out k hk; have h9 := Option.some.inj e; omega))
    clear hg hr c11
    go_wp2_with fail
    refine (l_markK y1 m1 m1 _ (1 + 7 * (n : Int)) F _ Y1_12.out HM1.out (by omega) (by omega) (by omega)).mono ?_
    rintro e w13 ⟨rfl, hg⟩
    have z13 := hg.size
    have b13 : w5.heap.size < w13.heap.size := Nat.lt_of_lt_of_le b12 z13
    have W13 : Hid (Later w w13) := Lib.hid (later_growE W12.out hg (fun k e => by have h9 := Option.some.inj e; omega))
    have c13 : w13.cell? ⟨w.heap.size, 0, none⟩ = some (.slice a n cap) := hg.cell c12 (fun e => by have h9 := Option.some.inj e; simp at h9; omega)
    have OS_13 := Lib.hid (OS_12.out.keptE hg (fun k hk e => by have h1 := RS.out k hk; have h9 := Option.some.inj e; omega))
    have OI_13 := Lib.hid (OI_12.out.keptE hg (fun k hk e => by have h1 := RI.out k hk; have h9 := Option.some.inj e; omega))
    clear hg c12
    obtain ⟨a1, k1, e1, s1, _⟩ := OS_13.out.sl
    obtain ⟨a2, k2, e2, s2, _⟩ := OI_13.out.sl
    cases e1; cases e2
    have S1 := Lib.hid s1; have S2 := Lib.hid s2
    clear s1 s2
    go_wp2_with fail
    refine (l_eqIE _ _ _ _ _ _ _ _ S2.out S1.out).mono ?_
    rintro e w14 ⟨rfl, hb⟩
    have hb : Later w13 w14 := hb
    have z14 := hb.size
    have b14 : w5.heap.size < w14.heap.size := Nat.lt_of_lt_of_le b13 z14
    have W14 : Hid (Later w w14) := Lib.hid (W13.out.trans hb)
    have c14 : w14.cell? ⟨w.heap.size, 0, none⟩ = some (.slice a n cap) := by rw [hb.cell (p := ⟨w.heap.size, 0, none⟩) (Nat.lt_trans b5 b13)]; exact c13
    have OS_14 := Lib.hid (OS_13.out.laterE hb)
    have OI_14 := Lib.hid (OI_13.out.laterE hb)
    skip
    clear hb c13 S1 S2
    go_wp2_with fail
    refine (l_markInt64S _ _ _ _ OI_14.out (by omega)).mono ?_
    rintro e w15 ⟨rfl, ho, hg⟩
    have z15 := hg.size
    have b15 : w5.heap.size < w15.heap.size := Nat.lt_of_lt_of_le b14 z15
    have W15 : Hid (Later w w15) := Lib.hid (later_growE W14.out hg (fun k e => by have h9 := RI.out _ e; omega))
    have c15 : w15.cell? ⟨w.heap.size, 0, none⟩ = some (.slice a n cap) := hg.cell c14 (fun e => by have h9 := RI.out _ e.symm; simp at h9; omega)
    have OS_15 := Lib.hid (OS_14.out.keptE hg (fun k hk e => by have h1 := RS.out k hk; have h9 := RI.out _ e; omega))
    have MI := Lib.hid ho
    clear ho hg c14
    go_wp2_with fail
    refine (l_heldInt64S _ _ _ _ MI.out (by omega)).mono ?_
    rintro e w' ⟨rfl, rfl⟩
    go_wp2_with fail
    refine (l_toLayout a n cap L _ (HS.out.later W15.out) hle).mono ?_
    rintro e w16 ⟨gl, rfl, hg, hr, hb⟩
    have hb : Later w15 w16 := hb
    have z16 := hb.size
    have b16 : w5.heap.size < w16.heap.size := Nat.lt_of_lt_of_le b15 z16
    have W16 : Hid (Later w w16) := Lib.hid (W15.out.trans hb)
    have c16 : w16.cell? ⟨w.heap.size, 0, none⟩ = some (.slice a n cap) := by rw [hb.cell (p := ⟨w.heap.size, 0, none⟩) (Nat.lt_trans b5 b15)]; exact c15
    have OS_16 := Lib.hid (OS_15.out.laterE hb)
    have MI_16 := Lib.hid (MI.out.laterE hb)
    have SZ := Lib.hid (hr.sgs HS.out.1 (by omega) HS.out.2.2.2)
    clear hb c15 hr hg
    go_wp2_with fail
    refine (l_toInt64S A1 m1 c1 F _ (HF.out.laterE W16.out) hb1').mono ?_
    rintro e w17 ⟨p1, rfl, hg, hr, hs, hb⟩
    have hb : Later w16 w17 := hb
    have z17 := hb.size
    have b17 : w5.heap.size < w17.heap.size := Nat.lt_of_lt_of_le b16 z17
    have W17 : Hid (Later w w17) := Lib.hid (W16.out.trans hb)
    have OS_17 := Lib.hid (OS_16.out.laterE hb)
    have MI_17 := Lib.hid (MI_16.out.laterE hb)
    have SZ_17 := Lib.hid (SZ.out.later hb)
    have TZ1 := Lib.hid hs
    clear hb hg hr hs
    go_wp2_with fail
    refine (i_SensorsPassed _ n n L _ m1 m1 F p q _ SZ_17.out TZ1.out).mono ?_
    rintro e w18 ⟨vz, rfl, hoz, hb⟩
    have hb : Later w17 w18 := hb
    have z18 := hb.size
    have b18 : w5.heap.size < w18.heap.size := Nat.lt_of_lt_of_le b17 z18
    have W18 : Hid (Later w w18) := Lib.hid (W17.out.trans hb)
    have OS_18 := Lib.hid (OS_17.out.laterE hb)
    have MI_18 := Lib.hid (MI_17.out.laterE hb)
    have SZ_18 := Lib.hid (SZ_17.out.later hb)
    have TZ1_18 := Lib.hid (TZ1.out.laterE hb)
    obtain ⟨az, kz, rfl, s9, _⟩ := hoz.sl
    have S9 := Lib.hid s9
    clear hb hoz s9
    obtain ⟨a3, k3, e3, s3, _⟩ := OS_18.out.sl
    cases e3
    have S3 := Lib.hid s3
    clear s3
    go_wp2_with fail
    refine (l_eqIE _ _ _ _ _ _ _ _ S9.out S3.out).mono ?_
    rintro e w19 ⟨rfl, hb⟩
    have hb : Later w18 w19 := hb
    have z19 := hb.size
    have b19 : w5.heap.size < w19.heap.size := Nat.lt_of_lt_of_le b18 z19
    have W19 : Hid (Later w w19) := Lib.hid (W18.out.trans hb)
    have OS_19 := Lib.hid (OS_18.out.laterE hb)
    have MI_19 := Lib.hid (MI_18.out.laterE hb)
    have SZ_19 := Lib.hid (SZ_18.out.later hb)
    have TZ1_19 := Lib.hid (TZ1_18.out.laterE hb)
    skip
    clear hb
    go_wp2_with fail
    refine (l_heldInt64S _ _ _ _ MI_19.out (by omega)).mono ?_
    rintro e w' ⟨rfl, rfl⟩
    go_wp2_with fail
    go_ret
    exact ⟨rfl, W19.out⟩

end Go.Proofs.Ytehinlecppbjeaa
