/- The walks of the exact laws of chapter 5 on rears, moves, gaps, separate trains. -/
import Derived.Test.YtehinlecppbjeaaExT
import Derived.Test.YtehinlecppbjeaaOcR
import Derived.Test.YtehinlecppbjeaaOcS
import Derived.Test.YtehinlecppbjeaaOcV
import Derived.Test.YtehinlecppbjeaaOcY
import Derived.Test.YtehinlecppbjeaaSgC
import Derived.Test.YtehinlecppbjeaaMemO
namespace Go.Proofs.Ytehinlecppbjeaa
open Go.RowKit
set_option maxHeartbeats 4000000
set_option linter.unusedVariables false
set_option linter.unusedSimpArgs false
set_option maxRecDepth 100000 in
theorem walk_FnExactRearOf (a : Option Addr) (n cap : Nat) (L : List Sg) (p : Int) (q : Int) (w : World) (hcap : n ≤ cap) (hs : Sgs w a n L) (u1 : (Lit.int .i64 p).wf = true) (u2 : (Lit.int .i64 q).wf = true) :
    Calls Try.prog 7 #[.agg #[.slice a n cap], .int .i64 p, .int .i64 q] w fun e w' => e = .returned (.bool true) ∧ Later w w' := by
  have HS := Lib.hid hs
  have hn := hs.2.1
  have HLn := Lib.hid hs.1
  obtain ⟨v1, v1'⟩ := i64w u1
  clear u1
  obtain ⟨v2, v2'⟩ := i64w u2
  clear u2
  clear hs
  have e0 : (rearV L p q != rearV L p q) = false := by simp
  have e1 : (trE L p q != trE L p q) = false := by simp
  by_cases hbig : 1048576 < n
  · have hz := Lib.hid (szI_big hbig)
    go_enter Try.func7, Try.ntmps7
    go_wp2_with (go_at_call 47; refine (l_szLayout a n cap _ hn).mono ?_; rw [hz.out]; rintro e w1 ⟨rfl, hb⟩; have H := Lib.hid hb; clear hb)
    go_ret
    exact ⟨rfl, (by repeat (first | (with_reducible exact Later.refl _) | (with_reducible exact Hid.out (by assumption)) | (with_reducible refine Later.alloc ?_ _) | (with_reducible refine Later.setCell ?_ (by simp; omega) _) | (with_reducible refine Later.setCell ?_ (by simp) _) | (with_reducible refine Later.drewN ?_ _) | (with_reducible refine Later.drew ?_) | (with_reducible refine Later.trans ?_ (Hid.out (by assumption)))))⟩
  have hle : n ≤ 1048576 := by omega
  have hz := Lib.hid (szI_ok hle)
  clear hbig
  go_enter Try.func7, Try.ntmps7
  go_wp2_with fail
  refine (l_szLayout a n cap _ hn).mono ?_
  rw [hz.out]
  rintro e w1 ⟨rfl, hb⟩
  have b1 : w.heap.size < w1.heap.size := by have := hb.size; simp at this; omega
  have c1 : w1.cell? ⟨w.heap.size, 0, none⟩ = some (.slice a n cap) := by rw [hb.cell (p := ⟨w.heap.size, 0, none⟩) (by simp)]; simp
  have W1 : Hid (Later w w1) := Lib.hid (((Later.refl _).alloc _).trans hb)
  clear hb
  go_wp2_with fail
  refine (l_toLayout a n cap L _ (HS.out.later W1.out) hle).mono ?_
  rintro e w2 ⟨g, rfl, hg, hr, hb⟩
  have hb : Later w1 w2 := hb
  have z2 := hb.size
  have b2 : w.heap.size < w2.heap.size := Nat.lt_of_lt_of_le b1 z2
  have c2 : w2.cell? ⟨w.heap.size, 0, none⟩ = some (.slice a n cap) := by rw [hb.cell (p := ⟨w.heap.size, 0, none⟩) b1]; exact c1
  have W2 : Hid (Later w w2) := Lib.hid (W1.out.trans hb)
  have S0 := Lib.hid (hr.sgs HS.out.1 (by omega) HS.out.2.2.2)
  clear hb c1 hr hg
  go_wp2_with fail
  refine (s_RearOf _ n n L p q _ S0.out).mono ?_
  rintro e w3 ⟨rfl, hb⟩
  have hb : Later w2 w3 := hb
  have z3 := hb.size
  have b3 : w.heap.size < w3.heap.size := Nat.lt_of_lt_of_le b2 z3
  have c3 : w3.cell? ⟨w.heap.size, 0, none⟩ = some (.slice a n cap) := by rw [hb.cell (p := ⟨w.heap.size, 0, none⟩) b2]; exact c2
  have W3 : Hid (Later w w3) := Lib.hid (W2.out.trans hb)
  have S0_3 := Lib.hid (S0.out.later hb)
  skip
  clear hb c2
  go_wp2_with fail
  refine (l_toLayout a n cap L _ (HS.out.later W3.out) hle).mono ?_
  rintro e w4 ⟨gx0, rfl, hgx, hr, hb⟩
  have hb : Later w3 w4 := hb
  have z4 := hb.size
  have b4 : w.heap.size < w4.heap.size := Nat.lt_of_lt_of_le b3 z4
  have c4 : w4.cell? ⟨w.heap.size, 0, none⟩ = some (.slice a n cap) := by rw [hb.cell (p := ⟨w.heap.size, 0, none⟩) b3]; exact c3
  have W4 : Hid (Later w w4) := Lib.hid (W3.out.trans hb)
  have X0 := Lib.hid hr
  have X0l := hr.lt
  clear hb c3 hr
  go_wp2_with fail
  refine (i_RearOf _ n n L p q _ ((X0.out.later ((Later.refl _).alloc _)).sgs HS.out.1 (by omega) HS.out.2.2.2) ⟨v1, v1'⟩).mono ?_
  rintro e w5 ⟨rfl, hb⟩
  have hb : Later (w4.alloc (.cells #[.slice (some ⟨gx0, 0, none⟩) n n] 26)) w5 := hb
  have z5 : w4.heap.size + 1 ≤ w5.heap.size := by have := hb.size; rw [World.size_alloc] at this; exact this
  have b5 : w4.heap.size < w5.heap.size := by omega
  have c5 : w5.cell? ⟨w.heap.size, 0, none⟩ = some (.slice a n cap) := (hb.cell (p := ⟨w.heap.size, 0, none⟩) (by rw [World.size_alloc]; exact Nat.lt_succ_of_lt b4)).trans ((World.cell?_alloc_lt w4 _ ⟨w.heap.size, 0, none⟩ b4).trans c4)
  have d5 : w5.cell? ⟨w4.heap.size, 0, none⟩ = some (.slice (some ⟨gx0, 0, none⟩) n n) := by rw [hb.cell (p := ⟨w4.heap.size, 0, none⟩) (by simp)]; simp
  have W5 : Hid (Later w w5) := Lib.hid ((W4.out.alloc _).trans hb)
  have hbx : Later w4 w5 := ((Later.refl _).alloc _).trans hb
  have X0_5 := Lib.hid (X0.out.later hbx)
  skip
  clear hb hbx c4
  have K5 := Lib.hid (And.intro c5 d5)
  clear c5 d5
  obtain ⟨c5, d5⟩ := K5.out
  go_wp2_with fail
  go_region_held3 (fun w' => w'.cell? ⟨w.heap.size, 0, none⟩ = some (.slice a n cap) ∧ w'.cell? ⟨w4.heap.size, 0, none⟩ = some (.slice (some ⟨gx0, 0, none⟩) n n))
    (exact two_cells K5.out.1 (Nat.lt_trans b4 b5) K5.out.2 b5 (by repeat (first | (with_reducible exact Later.refl _) | (with_reducible exact Hid.out (by assumption)) | (with_reducible refine Later.alloc ?_ _) | (with_reducible refine Later.setCell ?_ (by simp; omega) _) | (with_reducible refine Later.setCell ?_ (by simp) _) | (with_reducible refine Later.drewN ?_ _) | (with_reducible refine Later.drew ?_) | (with_reducible refine Later.trans ?_ (Hid.out (by assumption))))))
    (first
      | (go_at_call 48; refine (l_toLayout a n cap L _ (HS.out.later (by repeat (first | (with_reducible exact Later.refl _) | (with_reducible exact Hid.out (by assumption)) | (with_reducible refine Later.alloc ?_ _) | (with_reducible refine Later.setCell ?_ (by simp; omega) _) | (with_reducible refine Later.setCell ?_ (by simp) _) | (with_reducible refine Later.drewN ?_ _) | (with_reducible refine Later.drew ?_) | (with_reducible refine Later.trans ?_ (Hid.out (by assumption)))))) hle).mono ?_; rintro e wp ⟨gp, rfl, hgp, hrp, hbp⟩; have HP := Lib.hid hbp; have SP := Lib.hid (hrp.sgs HS.out.1 (by omega) HS.out.2.2.2); clear hbp hrp hgp)
      | (go_at_call 49; refine (l_eqLayout_same _ _ n n n n L _ ((X0_5.out.sgs HS.out.1 (by omega) HS.out.2.2.2).later (by repeat (first | (with_reducible exact Later.refl _) | (with_reducible exact Hid.out (by assumption)) | (with_reducible refine Later.alloc ?_ _) | (with_reducible refine Later.setCell ?_ (by simp; omega) _) | (with_reducible refine Later.setCell ?_ (by simp) _) | (with_reducible refine Later.drewN ?_ _) | (with_reducible refine Later.drew ?_) | (with_reducible refine Later.trans ?_ (Hid.out (by assumption)))))) (SP.out.later (by repeat (first | (with_reducible exact Later.refl _) | (with_reducible exact Hid.out (by assumption)) | (with_reducible refine Later.alloc ?_ _) | (with_reducible refine Later.setCell ?_ (by simp; omega) _) | (with_reducible refine Later.setCell ?_ (by simp) _) | (with_reducible refine Later.drewN ?_ _) | (with_reducible refine Later.drew ?_) | (with_reducible refine Later.trans ?_ (Hid.out (by assumption))))))).mono ?_; rintro e wq ⟨rfl, hbq⟩; have HQ := Lib.hid hbq; clear hbq))
  all_goals
    go_wp2_with fail
    go_ret
    exact ⟨rfl, (by repeat (first | (with_reducible exact Later.refl _) | (with_reducible exact Hid.out (by assumption)) | (with_reducible refine Later.alloc ?_ _) | (with_reducible refine Later.setCell ?_ (by simp; omega) _) | (with_reducible refine Later.setCell ?_ (by simp) _) | (with_reducible refine Later.drewN ?_ _) | (with_reducible refine Later.drew ?_) | (with_reducible refine Later.trans ?_ (Hid.out (by assumption)))))⟩

set_option maxRecDepth 100000 in
theorem walk_FnExactMoveFront (a : Option Addr) (n cap : Nat) (L : List Sg) (p : Int) (q : Int) (w : World) (hcap : n ≤ cap) (hs : Sgs w a n L) (u1 : (Lit.int .i64 p).wf = true) (u2 : (Lit.int .i64 q).wf = true) :
    Calls Try.prog 8 #[.agg #[.slice a n cap], .int .i64 p, .int .i64 q] w fun e w' => e = .returned (.bool true) ∧ Later w w' := by
  have HS := Lib.hid hs
  have hn := hs.2.1
  have HLn := Lib.hid hs.1
  obtain ⟨v1, v1'⟩ := i64w u1
  clear u1
  obtain ⟨v2, v2'⟩ := i64w u2
  clear u2
  clear hs
  have e0 : (movV L p q != movV L p q) = false := by simp
  have e1 : (mvE L p q != mvE L p q) = false := by simp
  by_cases hbig : 1048576 < n
  · have hz := Lib.hid (szI_big hbig)
    go_enter Try.func8, Try.ntmps8
    go_wp2_with (go_at_call 47; refine (l_szLayout a n cap _ hn).mono ?_; rw [hz.out]; rintro e w1 ⟨rfl, hb⟩; have H := Lib.hid hb; clear hb)
    go_ret
    exact ⟨rfl, (by repeat (first | (with_reducible exact Later.refl _) | (with_reducible exact Hid.out (by assumption)) | (with_reducible refine Later.alloc ?_ _) | (with_reducible refine Later.setCell ?_ (by simp; omega) _) | (with_reducible refine Later.setCell ?_ (by simp) _) | (with_reducible refine Later.drewN ?_ _) | (with_reducible refine Later.drew ?_) | (with_reducible refine Later.trans ?_ (Hid.out (by assumption)))))⟩
  have hle : n ≤ 1048576 := by omega
  have hz := Lib.hid (szI_ok hle)
  clear hbig
  go_enter Try.func8, Try.ntmps8
  go_wp2_with fail
  refine (l_szLayout a n cap _ hn).mono ?_
  rw [hz.out]
  rintro e w1 ⟨rfl, hb⟩
  have b1 : w.heap.size < w1.heap.size := by have := hb.size; simp at this; omega
  have c1 : w1.cell? ⟨w.heap.size, 0, none⟩ = some (.slice a n cap) := by rw [hb.cell (p := ⟨w.heap.size, 0, none⟩) (by simp)]; simp
  have W1 : Hid (Later w w1) := Lib.hid (((Later.refl _).alloc _).trans hb)
  clear hb
  go_wp2_with fail
  refine (l_toLayout a n cap L _ (HS.out.later W1.out) hle).mono ?_
  rintro e w2 ⟨g, rfl, hg, hr, hb⟩
  have hb : Later w1 w2 := hb
  have z2 := hb.size
  have b2 : w.heap.size < w2.heap.size := Nat.lt_of_lt_of_le b1 z2
  have c2 : w2.cell? ⟨w.heap.size, 0, none⟩ = some (.slice a n cap) := by rw [hb.cell (p := ⟨w.heap.size, 0, none⟩) b1]; exact c1
  have W2 : Hid (Later w w2) := Lib.hid (W1.out.trans hb)
  have S0 := Lib.hid (hr.sgs HS.out.1 (by omega) HS.out.2.2.2)
  clear hb c1 hr hg
  go_wp2_with fail
  refine (s_MoveFront _ n n L p q _ S0.out).mono ?_
  rintro e w3 ⟨rfl, hb⟩
  have hb : Later w2 w3 := hb
  have z3 := hb.size
  have b3 : w.heap.size < w3.heap.size := Nat.lt_of_lt_of_le b2 z3
  have c3 : w3.cell? ⟨w.heap.size, 0, none⟩ = some (.slice a n cap) := by rw [hb.cell (p := ⟨w.heap.size, 0, none⟩) b2]; exact c2
  have W3 : Hid (Later w w3) := Lib.hid (W2.out.trans hb)
  have S0_3 := Lib.hid (S0.out.later hb)
  skip
  clear hb c2
  go_wp2_with fail
  refine (l_toLayout a n cap L _ (HS.out.later W3.out) hle).mono ?_
  rintro e w4 ⟨gx0, rfl, hgx, hr, hb⟩
  have hb : Later w3 w4 := hb
  have z4 := hb.size
  have b4 : w.heap.size < w4.heap.size := Nat.lt_of_lt_of_le b3 z4
  have c4 : w4.cell? ⟨w.heap.size, 0, none⟩ = some (.slice a n cap) := by rw [hb.cell (p := ⟨w.heap.size, 0, none⟩) b3]; exact c3
  have W4 : Hid (Later w w4) := Lib.hid (W3.out.trans hb)
  have X0 := Lib.hid hr
  have X0l := hr.lt
  clear hb c3 hr
  go_wp2_with fail
  refine (i_MoveFront _ n n L p q _ ((X0.out.later ((Later.refl _).alloc _)).sgs HS.out.1 (by omega) HS.out.2.2.2)).mono ?_
  rintro e w5 ⟨rfl, hb⟩
  have hb : Later (w4.alloc (.cells #[.slice (some ⟨gx0, 0, none⟩) n n] 26)) w5 := hb
  have z5 : w4.heap.size + 1 ≤ w5.heap.size := by have := hb.size; rw [World.size_alloc] at this; exact this
  have b5 : w4.heap.size < w5.heap.size := by omega
  have c5 : w5.cell? ⟨w.heap.size, 0, none⟩ = some (.slice a n cap) := (hb.cell (p := ⟨w.heap.size, 0, none⟩) (by rw [World.size_alloc]; exact Nat.lt_succ_of_lt b4)).trans ((World.cell?_alloc_lt w4 _ ⟨w.heap.size, 0, none⟩ b4).trans c4)
  have d5 : w5.cell? ⟨w4.heap.size, 0, none⟩ = some (.slice (some ⟨gx0, 0, none⟩) n n) := by rw [hb.cell (p := ⟨w4.heap.size, 0, none⟩) (by simp)]; simp
  have W5 : Hid (Later w w5) := Lib.hid ((W4.out.alloc _).trans hb)
  have hbx : Later w4 w5 := ((Later.refl _).alloc _).trans hb
  have X0_5 := Lib.hid (X0.out.later hbx)
  skip
  clear hb hbx c4
  have K5 := Lib.hid (And.intro c5 d5)
  clear c5 d5
  obtain ⟨c5, d5⟩ := K5.out
  go_wp2_with fail
  go_region_held3 (fun w' => w'.cell? ⟨w.heap.size, 0, none⟩ = some (.slice a n cap) ∧ w'.cell? ⟨w4.heap.size, 0, none⟩ = some (.slice (some ⟨gx0, 0, none⟩) n n))
    (exact two_cells K5.out.1 (Nat.lt_trans b4 b5) K5.out.2 b5 (by repeat (first | (with_reducible exact Later.refl _) | (with_reducible exact Hid.out (by assumption)) | (with_reducible refine Later.alloc ?_ _) | (with_reducible refine Later.setCell ?_ (by simp; omega) _) | (with_reducible refine Later.setCell ?_ (by simp) _) | (with_reducible refine Later.drewN ?_ _) | (with_reducible refine Later.drew ?_) | (with_reducible refine Later.trans ?_ (Hid.out (by assumption))))))
    (first
      | (go_at_call 48; refine (l_toLayout a n cap L _ (HS.out.later (by repeat (first | (with_reducible exact Later.refl _) | (with_reducible exact Hid.out (by assumption)) | (with_reducible refine Later.alloc ?_ _) | (with_reducible refine Later.setCell ?_ (by simp; omega) _) | (with_reducible refine Later.setCell ?_ (by simp) _) | (with_reducible refine Later.drewN ?_ _) | (with_reducible refine Later.drew ?_) | (with_reducible refine Later.trans ?_ (Hid.out (by assumption)))))) hle).mono ?_; rintro e wp ⟨gp, rfl, hgp, hrp, hbp⟩; have HP := Lib.hid hbp; have SP := Lib.hid (hrp.sgs HS.out.1 (by omega) HS.out.2.2.2); clear hbp hrp hgp)
      | (go_at_call 49; refine (l_eqLayout_same _ _ n n n n L _ ((X0_5.out.sgs HS.out.1 (by omega) HS.out.2.2.2).later (by repeat (first | (with_reducible exact Later.refl _) | (with_reducible exact Hid.out (by assumption)) | (with_reducible refine Later.alloc ?_ _) | (with_reducible refine Later.setCell ?_ (by simp; omega) _) | (with_reducible refine Later.setCell ?_ (by simp) _) | (with_reducible refine Later.drewN ?_ _) | (with_reducible refine Later.drew ?_) | (with_reducible refine Later.trans ?_ (Hid.out (by assumption)))))) (SP.out.later (by repeat (first | (with_reducible exact Later.refl _) | (with_reducible exact Hid.out (by assumption)) | (with_reducible refine Later.alloc ?_ _) | (with_reducible refine Later.setCell ?_ (by simp; omega) _) | (with_reducible refine Later.setCell ?_ (by simp) _) | (with_reducible refine Later.drewN ?_ _) | (with_reducible refine Later.drew ?_) | (with_reducible refine Later.trans ?_ (Hid.out (by assumption))))))).mono ?_; rintro e wq ⟨rfl, hbq⟩; have HQ := Lib.hid hbq; clear hbq))
  all_goals
    go_wp2_with fail
    go_ret
    exact ⟨rfl, (by repeat (first | (with_reducible exact Later.refl _) | (with_reducible exact Hid.out (by assumption)) | (with_reducible refine Later.alloc ?_ _) | (with_reducible refine Later.setCell ?_ (by simp; omega) _) | (with_reducible refine Later.setCell ?_ (by simp) _) | (with_reducible refine Later.drewN ?_ _) | (with_reducible refine Later.drew ?_) | (with_reducible refine Later.trans ?_ (Hid.out (by assumption)))))⟩

set_option maxRecDepth 100000 in
theorem walk_FnExactGapAhead (a : Option Addr) (n cap : Nat) (L : List Sg) (x : Int) (y : Int) (q : Int) (w : World) (hcap : n ≤ cap) (hs : Sgs w a n L) (u1 : (Lit.int .i64 x).wf = true) (u2 : (Lit.int .i64 y).wf = true) (u3 : (Lit.int .i64 q).wf = true) :
    Calls Try.prog 10 #[.agg #[.slice a n cap], .int .i64 x, .int .i64 y, .int .i64 q] w fun e w' => e = .returned (.bool true) ∧ Later w w' := by
  have HS := Lib.hid hs
  have hn := hs.2.1
  have HLn := Lib.hid hs.1
  obtain ⟨v1, v1'⟩ := i64w u1
  clear u1
  obtain ⟨v2, v2'⟩ := i64w u2
  clear u2
  obtain ⟨v3, v3'⟩ := i64w u3
  clear u3
  clear hs
  have e0 : (gapV L x y q != gapV L x y q) = false := by simp
  have e1 : (gapE L x y q != gapE L x y q) = false := by simp
  by_cases hbig : 1048576 < n
  · have hz := Lib.hid (szI_big hbig)
    go_enter Try.func10, Try.ntmps10
    go_wp2_with (go_at_call 47; refine (l_szLayout a n cap _ hn).mono ?_; rw [hz.out]; rintro e w1 ⟨rfl, hb⟩; have H := Lib.hid hb; clear hb)
    go_ret
    exact ⟨rfl, (by repeat (first | (with_reducible exact Later.refl _) | (with_reducible exact Hid.out (by assumption)) | (with_reducible refine Later.alloc ?_ _) | (with_reducible refine Later.setCell ?_ (by simp; omega) _) | (with_reducible refine Later.setCell ?_ (by simp) _) | (with_reducible refine Later.drewN ?_ _) | (with_reducible refine Later.drew ?_) | (with_reducible refine Later.trans ?_ (Hid.out (by assumption)))))⟩
  have hle : n ≤ 1048576 := by omega
  have hz := Lib.hid (szI_ok hle)
  clear hbig
  go_enter Try.func10, Try.ntmps10
  go_wp2_with fail
  refine (l_szLayout a n cap _ hn).mono ?_
  rw [hz.out]
  rintro e w1 ⟨rfl, hb⟩
  have b1 : w.heap.size < w1.heap.size := by have := hb.size; simp at this; omega
  have c1 : w1.cell? ⟨w.heap.size, 0, none⟩ = some (.slice a n cap) := by rw [hb.cell (p := ⟨w.heap.size, 0, none⟩) (by simp)]; simp
  have W1 : Hid (Later w w1) := Lib.hid (((Later.refl _).alloc _).trans hb)
  clear hb
  go_wp2_with fail
  refine (l_toLayout a n cap L _ (HS.out.later W1.out) hle).mono ?_
  rintro e w2 ⟨g, rfl, hg, hr, hb⟩
  have hb : Later w1 w2 := hb
  have z2 := hb.size
  have b2 : w.heap.size < w2.heap.size := Nat.lt_of_lt_of_le b1 z2
  have c2 : w2.cell? ⟨w.heap.size, 0, none⟩ = some (.slice a n cap) := by rw [hb.cell (p := ⟨w.heap.size, 0, none⟩) b1]; exact c1
  have W2 : Hid (Later w w2) := Lib.hid (W1.out.trans hb)
  have S0 := Lib.hid (hr.sgs HS.out.1 (by omega) HS.out.2.2.2)
  clear hb c1 hr hg
  go_wp2_with fail
  refine (s_GapAhead _ n n L x y q _ S0.out).mono ?_
  rintro e w3 ⟨rfl, hb⟩
  have hb : Later w2 w3 := hb
  have z3 := hb.size
  have b3 : w.heap.size < w3.heap.size := Nat.lt_of_lt_of_le b2 z3
  have c3 : w3.cell? ⟨w.heap.size, 0, none⟩ = some (.slice a n cap) := by rw [hb.cell (p := ⟨w.heap.size, 0, none⟩) b2]; exact c2
  have W3 : Hid (Later w w3) := Lib.hid (W2.out.trans hb)
  have S0_3 := Lib.hid (S0.out.later hb)
  skip
  clear hb c2
  go_wp2_with fail
  refine (l_toLayout a n cap L _ (HS.out.later W3.out) hle).mono ?_
  rintro e w4 ⟨gx0, rfl, hgx, hr, hb⟩
  have hb : Later w3 w4 := hb
  have z4 := hb.size
  have b4 : w.heap.size < w4.heap.size := Nat.lt_of_lt_of_le b3 z4
  have c4 : w4.cell? ⟨w.heap.size, 0, none⟩ = some (.slice a n cap) := by rw [hb.cell (p := ⟨w.heap.size, 0, none⟩) b3]; exact c3
  have W4 : Hid (Later w w4) := Lib.hid (W3.out.trans hb)
  have X0 := Lib.hid hr
  have X0l := hr.lt
  clear hb c3 hr
  go_wp2_with fail
  refine (i_GapAhead _ n n L x y q _ ((X0.out.later ((Later.refl _).alloc _)).sgs HS.out.1 (by omega) HS.out.2.2.2) ⟨v1, v1'⟩ ⟨v2, v2'⟩).mono ?_
  rintro e w5 ⟨rfl, hb⟩
  have hb : Later (w4.alloc (.cells #[.slice (some ⟨gx0, 0, none⟩) n n] 26)) w5 := hb
  have z5 : w4.heap.size + 1 ≤ w5.heap.size := by have := hb.size; rw [World.size_alloc] at this; exact this
  have b5 : w4.heap.size < w5.heap.size := by omega
  have c5 : w5.cell? ⟨w.heap.size, 0, none⟩ = some (.slice a n cap) := (hb.cell (p := ⟨w.heap.size, 0, none⟩) (by rw [World.size_alloc]; exact Nat.lt_succ_of_lt b4)).trans ((World.cell?_alloc_lt w4 _ ⟨w.heap.size, 0, none⟩ b4).trans c4)
  have d5 : w5.cell? ⟨w4.heap.size, 0, none⟩ = some (.slice (some ⟨gx0, 0, none⟩) n n) := by rw [hb.cell (p := ⟨w4.heap.size, 0, none⟩) (by simp)]; simp
  have W5 : Hid (Later w w5) := Lib.hid ((W4.out.alloc _).trans hb)
  have hbx : Later w4 w5 := ((Later.refl _).alloc _).trans hb
  have X0_5 := Lib.hid (X0.out.later hbx)
  skip
  clear hb hbx c4
  have K5 := Lib.hid (And.intro c5 d5)
  clear c5 d5
  obtain ⟨c5, d5⟩ := K5.out
  go_wp2_with fail
  go_region_held3 (fun w' => w'.cell? ⟨w.heap.size, 0, none⟩ = some (.slice a n cap) ∧ w'.cell? ⟨w4.heap.size, 0, none⟩ = some (.slice (some ⟨gx0, 0, none⟩) n n))
    (exact two_cells K5.out.1 (Nat.lt_trans b4 b5) K5.out.2 b5 (by repeat (first | (with_reducible exact Later.refl _) | (with_reducible exact Hid.out (by assumption)) | (with_reducible refine Later.alloc ?_ _) | (with_reducible refine Later.setCell ?_ (by simp; omega) _) | (with_reducible refine Later.setCell ?_ (by simp) _) | (with_reducible refine Later.drewN ?_ _) | (with_reducible refine Later.drew ?_) | (with_reducible refine Later.trans ?_ (Hid.out (by assumption))))))
    (first
      | (go_at_call 48; refine (l_toLayout a n cap L _ (HS.out.later (by repeat (first | (with_reducible exact Later.refl _) | (with_reducible exact Hid.out (by assumption)) | (with_reducible refine Later.alloc ?_ _) | (with_reducible refine Later.setCell ?_ (by simp; omega) _) | (with_reducible refine Later.setCell ?_ (by simp) _) | (with_reducible refine Later.drewN ?_ _) | (with_reducible refine Later.drew ?_) | (with_reducible refine Later.trans ?_ (Hid.out (by assumption)))))) hle).mono ?_; rintro e wp ⟨gp, rfl, hgp, hrp, hbp⟩; have HP := Lib.hid hbp; have SP := Lib.hid (hrp.sgs HS.out.1 (by omega) HS.out.2.2.2); clear hbp hrp hgp)
      | (go_at_call 49; refine (l_eqLayout_same _ _ n n n n L _ ((X0_5.out.sgs HS.out.1 (by omega) HS.out.2.2.2).later (by repeat (first | (with_reducible exact Later.refl _) | (with_reducible exact Hid.out (by assumption)) | (with_reducible refine Later.alloc ?_ _) | (with_reducible refine Later.setCell ?_ (by simp; omega) _) | (with_reducible refine Later.setCell ?_ (by simp) _) | (with_reducible refine Later.drewN ?_ _) | (with_reducible refine Later.drew ?_) | (with_reducible refine Later.trans ?_ (Hid.out (by assumption)))))) (SP.out.later (by repeat (first | (with_reducible exact Later.refl _) | (with_reducible exact Hid.out (by assumption)) | (with_reducible refine Later.alloc ?_ _) | (with_reducible refine Later.setCell ?_ (by simp; omega) _) | (with_reducible refine Later.setCell ?_ (by simp) _) | (with_reducible refine Later.drewN ?_ _) | (with_reducible refine Later.drew ?_) | (with_reducible refine Later.trans ?_ (Hid.out (by assumption))))))).mono ?_; rintro e wq ⟨rfl, hbq⟩; have HQ := Lib.hid hbq; clear hbq))
  all_goals
    go_wp2_with fail
    go_ret
    exact ⟨rfl, (by repeat (first | (with_reducible exact Later.refl _) | (with_reducible exact Hid.out (by assumption)) | (with_reducible refine Later.alloc ?_ _) | (with_reducible refine Later.setCell ?_ (by simp; omega) _) | (with_reducible refine Later.setCell ?_ (by simp) _) | (with_reducible refine Later.drewN ?_ _) | (with_reducible refine Later.drew ?_) | (with_reducible refine Later.trans ?_ (Hid.out (by assumption)))))⟩

set_option maxRecDepth 100000 in
theorem walk_FnExactAreSeparate (a : Option Addr) (n cap : Nat) (L : List Sg) (A1 : Option Addr) (m1 c1 : Nat) (Z1 : List Int) (q : Int) (w : World) (hcap : n ≤ cap) (hs : Sgs w a n L) (u1 : IsRow .i64 w A1 m1 c1 Z1) (u2 : (Lit.int .i64 q).wf = true) :
    Calls Try.prog 11 #[.agg #[.slice a n cap], .slice A1 m1 c1, .int .i64 q] w fun e w' => e = .returned (.bool true) ∧ Later w w' := by
  have HS := Lib.hid hs
  have hn := hs.2.1
  have HLn := Lib.hid hs.1
  have hle1 := isRow_leE u1
  obtain ⟨F, hF⟩ : ∃ F, F = Z1.take m1 := ⟨_, rfl⟩
  have HF := Lib.hid (isRow_sl u1)
  rw [← hF] at HF
  have hm1 := HF.out.2.1
  have HM1 := Lib.hid HF.out.1
  clear u1 hF
  obtain ⟨v2, v2'⟩ := i64w u2
  clear u2
  clear hs
  have e0 : (sepB L F q != sepB L F q) = false := by simp
  by_cases hb1 : 1048576 < m1
  · go_enter Try.func11, Try.ntmps11
    go_wp2
    go_ret
    exact ⟨rfl, (by repeat (first | (with_reducible exact Later.refl _) | (with_reducible exact Hid.out (by assumption)) | (with_reducible refine Later.alloc ?_ _) | (with_reducible refine Later.setCell ?_ (by simp; omega) _) | (with_reducible refine Later.setCell ?_ (by simp) _) | (with_reducible refine Later.drewN ?_ _) | (with_reducible refine Later.drew ?_) | (with_reducible refine Later.trans ?_ (Hid.out (by assumption)))))⟩
  have hb1' : m1 ≤ 1048576 := by omega
  by_cases hbig : 1048576 < n
  · have hz := Lib.hid (szI_big hbig)
    go_enter Try.func11, Try.ntmps11
    go_wp2_with (go_at_call 47; refine (l_szLayout a n cap _ hn).mono ?_; rw [hz.out]; rintro e w1 ⟨rfl, hb⟩; have H := Lib.hid hb; clear hb)
    go_ret
    exact ⟨rfl, (by repeat (first | (with_reducible exact Later.refl _) | (with_reducible exact Hid.out (by assumption)) | (with_reducible refine Later.alloc ?_ _) | (with_reducible refine Later.setCell ?_ (by simp; omega) _) | (with_reducible refine Later.setCell ?_ (by simp) _) | (with_reducible refine Later.drewN ?_ _) | (with_reducible refine Later.drew ?_) | (with_reducible refine Later.trans ?_ (Hid.out (by assumption)))))⟩
  have hle : n ≤ 1048576 := by omega
  have hz := Lib.hid (szI_ok hle)
  clear hbig hb1
  go_enter Try.func11, Try.ntmps11
  go_wp2_with fail
  refine (l_szLayout a n cap _ hn).mono ?_
  rw [hz.out]
  rintro e w1 ⟨rfl, hb⟩
  have b1 : w.heap.size < w1.heap.size := by have := hb.size; simp at this; omega
  have c1 : w1.cell? ⟨w.heap.size, 0, none⟩ = some (.slice a n cap) := by rw [hb.cell (p := ⟨w.heap.size, 0, none⟩) (by simp)]; simp
  have W1 : Hid (Later w w1) := Lib.hid (((Later.refl _).alloc _).trans hb)
  clear hb
  go_wp2_with fail
  refine (l_toLayout a n cap L _ (HS.out.later W1.out) hle).mono ?_
  rintro e w2 ⟨g, rfl, hg, hr, hb⟩
  have hb : Later w1 w2 := hb
  have z2 := hb.size
  have b2 : w.heap.size < w2.heap.size := Nat.lt_of_lt_of_le b1 z2
  have c2 : w2.cell? ⟨w.heap.size, 0, none⟩ = some (.slice a n cap) := by rw [hb.cell (p := ⟨w.heap.size, 0, none⟩) b1]; exact c1
  have W2 : Hid (Later w w2) := Lib.hid (W1.out.trans hb)
  have S0 := Lib.hid (hr.sgs HS.out.1 (by omega) HS.out.2.2.2)
  clear hb c1 hr hg
  go_wp2_with fail
  refine (l_toInt64S A1 m1 c1 F _ (HF.out.laterE W2.out) hb1').mono ?_
  rintro e w3 ⟨g1, rfl, hg, hr, hs, hb⟩
  have hb : Later w2 w3 := hb
  have z3 := hb.size
  have b3 : w.heap.size < w3.heap.size := Nat.lt_of_lt_of_le b2 z3
  have c3 : w3.cell? ⟨w.heap.size, 0, none⟩ = some (.slice a n cap) := by rw [hb.cell (p := ⟨w.heap.size, 0, none⟩) b2]; exact c2
  have W3 : Hid (Later w w3) := Lib.hid (W2.out.trans hb)
  have S0_3 := Lib.hid (S0.out.later hb)
  have T1 := Lib.hid hs
  clear hb c2 hg hr hs
  go_wp2_with fail
  refine (s_AreSeparate _ n n L _ m1 m1 F q _ S0_3.out T1.out).mono ?_
  rintro e w4 ⟨rfl, hb⟩
  have hb : Later w3 w4 := hb
  have z4 := hb.size
  have b4 : w.heap.size < w4.heap.size := Nat.lt_of_lt_of_le b3 z4
  have c4 : w4.cell? ⟨w.heap.size, 0, none⟩ = some (.slice a n cap) := by rw [hb.cell (p := ⟨w.heap.size, 0, none⟩) b3]; exact c3
  have W4 : Hid (Later w w4) := Lib.hid (W3.out.trans hb)
  have S0_4 := Lib.hid (S0_3.out.later hb)
  have T1_4 := Lib.hid (T1.out.laterE hb)
  skip
  clear hb c3
  go_wp2_with fail
  refine (l_toLayout a n cap L _ (HS.out.later W4.out) hle).mono ?_
  rintro e w5 ⟨gx0, rfl, hgx, hr, hb⟩
  have hb : Later w4 w5 := hb
  have z5 := hb.size
  have b5 : w.heap.size < w5.heap.size := Nat.lt_of_lt_of_le b4 z5
  have c5 : w5.cell? ⟨w.heap.size, 0, none⟩ = some (.slice a n cap) := by rw [hb.cell (p := ⟨w.heap.size, 0, none⟩) b4]; exact c4
  have W5 : Hid (Later w w5) := Lib.hid (W4.out.trans hb)
  have X0 := Lib.hid hr
  have X0l := hr.lt
  clear hb c4 hr
  go_wp2_with fail
  refine (l_toInt64O A1 m1 c1 F _ (HF.out.laterE (W5.out.alloc _)) hb1').mono ?_
  rintro e w6 ⟨y1, rfl, hy1, hy1', ho, hb⟩
  have hb : Later (w5.alloc (.cells #[.slice (some ⟨gx0, 0, none⟩) n n] 26)) w6 := hb
  have z6 : w5.heap.size + 1 ≤ w6.heap.size := by have := hb.size; rw [World.size_alloc] at this; exact this
  have b6 : w5.heap.size < w6.heap.size := by omega
  have c6 : w6.cell? ⟨w.heap.size, 0, none⟩ = some (.slice a n cap) := (hb.cell (p := ⟨w.heap.size, 0, none⟩) (by rw [World.size_alloc]; exact Nat.lt_succ_of_lt b5)).trans ((World.cell?_alloc_lt w5 _ ⟨w.heap.size, 0, none⟩ b5).trans c5)
  have d6 : w6.cell? ⟨w5.heap.size, 0, none⟩ = some (.slice (some ⟨gx0, 0, none⟩) n n) := by rw [hb.cell (p := ⟨w5.heap.size, 0, none⟩) (by simp)]; simp
  have W6 : Hid (Later w w6) := Lib.hid ((W5.out.alloc _).trans hb)
  have hbx : Later w5 w6 := ((Later.refl _).alloc _).trans hb
  have X0_6 := Lib.hid (X0.out.later hbx)
  have Y1 := Lib.hid ho
  rw [World.size_alloc] at hy1
  clear hb hbx c5 ho
  go_wp2_with fail
  refine (i_AreSeparate _ n n L _ m1 m1 F q _ (X0_6.out.sgs HS.out.1 (by omega) HS.out.2.2.2) (own_slE Y1.out HM1.out) (Nat.le_refl _)).mono ?_
  rintro e w7 ⟨rfl, hb⟩
  have hb : Later w6 w7 := hb
  have z7 := hb.size
  have b7 : w5.heap.size < w7.heap.size := Nat.lt_of_lt_of_le b6 z7
  obtain ⟨c7, d7⟩ := two_cells c6 (Nat.lt_trans b5 b6) d6 b6 hb
  have W7 : Hid (Later w w7) := Lib.hid (W6.out.trans hb)
  have X0_7 := Lib.hid (X0_6.out.later hb)
  have Y1_7 := Lib.hid (Y1.out.laterE hb)
  skip
  clear hb c6 d6
  have K7 := Lib.hid (And.intro c7 d7)
  clear c7 d7
  obtain ⟨c7, d7⟩ := K7.out
  go_wp2_with fail
  go_region_held3 (fun w' => w'.cell? ⟨w.heap.size, 0, none⟩ = some (.slice a n cap) ∧ w'.cell? ⟨w5.heap.size, 0, none⟩ = some (.slice (some ⟨gx0, 0, none⟩) n n))
    (exact two_cells K7.out.1 (Nat.lt_trans b5 b7) K7.out.2 b7 (by repeat (first | (with_reducible exact Later.refl _) | (with_reducible exact Hid.out (by assumption)) | (with_reducible refine Later.alloc ?_ _) | (with_reducible refine Later.setCell ?_ (by simp; omega) _) | (with_reducible refine Later.setCell ?_ (by simp) _) | (with_reducible refine Later.drewN ?_ _) | (with_reducible refine Later.drew ?_) | (with_reducible refine Later.trans ?_ (Hid.out (by assumption))))))
    (first
      | (go_at_call 48; refine (l_toLayout a n cap L _ (HS.out.later (by repeat (first | (with_reducible exact Later.refl _) | (with_reducible exact Hid.out (by assumption)) | (with_reducible refine Later.alloc ?_ _) | (with_reducible refine Later.setCell ?_ (by simp; omega) _) | (with_reducible refine Later.setCell ?_ (by simp) _) | (with_reducible refine Later.drewN ?_ _) | (with_reducible refine Later.drew ?_) | (with_reducible refine Later.trans ?_ (Hid.out (by assumption)))))) hle).mono ?_; rintro e wp ⟨gp, rfl, hgp, hrp, hbp⟩; have HP := Lib.hid hbp; have SP := Lib.hid (hrp.sgs HS.out.1 (by omega) HS.out.2.2.2); clear hbp hrp hgp)
      | (go_at_call 49; refine (l_eqLayout_same _ _ n n n n L _ ((X0_7.out.sgs HS.out.1 (by omega) HS.out.2.2.2).later (by repeat (first | (with_reducible exact Later.refl _) | (with_reducible exact Hid.out (by assumption)) | (with_reducible refine Later.alloc ?_ _) | (with_reducible refine Later.setCell ?_ (by simp; omega) _) | (with_reducible refine Later.setCell ?_ (by simp) _) | (with_reducible refine Later.drewN ?_ _) | (with_reducible refine Later.drew ?_) | (with_reducible refine Later.trans ?_ (Hid.out (by assumption)))))) (SP.out.later (by repeat (first | (with_reducible exact Later.refl _) | (with_reducible exact Hid.out (by assumption)) | (with_reducible refine Later.alloc ?_ _) | (with_reducible refine Later.setCell ?_ (by simp; omega) _) | (with_reducible refine Later.setCell ?_ (by simp) _) | (with_reducible refine Later.drewN ?_ _) | (with_reducible refine Later.drew ?_) | (with_reducible refine Later.trans ?_ (Hid.out (by assumption))))))).mono ?_; rintro e wq ⟨rfl, hbq⟩; have HQ := Lib.hid hbq; clear hbq))
  all_goals
    go_wp2_with fail
    refine calls_into (fun W => Later w7 W) (by repeat (first | (with_reducible exact Later.refl _) | (with_reducible exact Hid.out (by assumption)) | (with_reducible refine Later.alloc ?_ _) | (with_reducible refine Later.setCell ?_ (by simp; omega) _) | (with_reducible refine Later.setCell ?_ (by simp) _) | (with_reducible refine Later.drewN ?_ _) | (with_reducible refine Later.drew ?_) | (with_reducible refine Later.trans ?_ (Hid.out (by assumption))))) ?_
    intro w8 hb
    have z8 := hb.size
    have b8 : w5.heap.size < w8.heap.size := Nat.lt_of_lt_of_le b7 z8
    have W8 : Hid (Later w w8) := Lib.hid (W7.out.trans hb)
    have X0_8 := Lib.hid (X0_7.out.later hb)
    have Y1_8 := Lib.hid (Y1_7.out.laterE hb)
    clear hb c7 d7 K7
    refine (l_toInt64S A1 m1 c1 F _ (HF.out.laterE W8.out) hb1').mono ?_
    rintro e w9 ⟨q1, rfl, hg, hr, hs, hb⟩
    have hb : Later w8 w9 := hb
    have z9 := hb.size
    have b9 : w5.heap.size < w9.heap.size := Nat.lt_of_lt_of_le b8 z9
    have W9 : Hid (Later w w9) := Lib.hid (W8.out.trans hb)
    have X0_9 := Lib.hid (X0_8.out.later hb)
    have Y1_9 := Lib.hid (Y1_8.out.laterE hb)
    have Q1 := Lib.hid hs
    clear hb hg hr hs
    go_wp2_with fail
    refine (l_eqIE _ _ m1 m1 m1 m1 F _ (own_slE Y1_9.out HM1.out) Q1.out).mono ?_
    rintro e w10 ⟨rfl, hb⟩
    have hb : Later w9 w10 := hb
    have z10 := hb.size
    have b10 : w5.heap.size < w10.heap.size := Nat.lt_of_lt_of_le b9 z10
    have W10 : Hid (Later w w10) := Lib.hid (W9.out.trans hb)
    have X0_10 := Lib.hid (X0_9.out.later hb)
    have Y1_10 := Lib.hid (Y1_9.out.laterE hb)
    skip
    clear hb Q1
    go_wp2_with fail
    go_ret
    exact ⟨rfl, W10.out⟩

end Go.Proofs.Ytehinlecppbjeaa
