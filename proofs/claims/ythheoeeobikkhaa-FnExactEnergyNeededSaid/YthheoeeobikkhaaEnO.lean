/- The walk of the exact law of chapter 6 on the energy that is needed. -/
import Derived.Test.YthheoeeobikkhaaExT
import Derived.Test.YthheoeeobikkhaaEnN
import Derived.Test.YthheoeeobikkhaaEnV
import Derived.Test.YthheoeeobikkhaaSgC
namespace Go.Proofs.Ythheoeeobikkhaa
open Go.RowKit
set_option maxHeartbeats 4000000
set_option linter.unusedVariables false
set_option linter.unusedSimpArgs false
set_option maxRecDepth 100000 in
theorem walk_FnExactEnergyNeeded (a : Option Addr) (n cap : Nat) (L : List Sg) (p : Int) (q : Int) (w : World) (hcap : n ≤ cap) (hs : Sgs w a n L) (u1 : (Lit.int .i64 p).wf = true) (u2 : (Lit.int .i64 q).wf = true) :
    Calls Try.prog 14 #[.agg #[.slice a n cap], .int .i64 p, .int .i64 q] w fun e w' => e = .returned (.bool true) ∧ Later w w' := by
  have HS := Lib.hid hs
  have hn := hs.2.1
  have HLn := Lib.hid hs.1
  obtain ⟨v1, v1'⟩ := i64w u1
  clear u1
  obtain ⟨v2, v2'⟩ := i64w u2
  clear u2
  clear hs
  have e0 : (enV L p q != enV L p q) = false := by simp
  have e1 : (enE L p q != enE L p q) = false := by simp
  by_cases hbig : 1048576 < n
  · have hz := Lib.hid (szI_big hbig)
    go_enter Try.func14, Try.ntmps14
    go_wp2_with (go_at_call 43; refine (l_szLayout a n cap _ hn).mono ?_; rw [hz.out]; rintro e w1 ⟨rfl, hb⟩; have H := Lib.hid hb; clear hb)
    go_ret
    exact ⟨rfl, (by repeat (first | (with_reducible exact Later.refl _) | (with_reducible exact Hid.out (by assumption)) | (with_reducible refine Later.alloc ?_ _) | (with_reducible refine Later.setCell ?_ (by simp; omega) _) | (with_reducible refine Later.setCell ?_ (by simp) _) | (with_reducible refine Later.drewN ?_ _) | (with_reducible refine Later.drew ?_) | (with_reducible refine Later.trans ?_ (Hid.out (by assumption)))))⟩
  have hle : n ≤ 1048576 := by omega
  have hz := Lib.hid (szI_ok hle)
  clear hbig
  go_enter Try.func14, Try.ntmps14
  go_wp2_with fail
  refine (l_szLayout a n cap _ hn).mono ?_
  rw [hz.out]
  rintro e w1 ⟨rfl, hb⟩
  have b1 : w.heap.size < w1.heap.size := by have := hb.size; simp at this; omega
  have c1 : w1.cell? ⟨w.heap.size, 0, none⟩ = some (.slice a n cap) := by rw [hb.cell (p := ⟨w.heap.size, 0, none⟩) (by simp)]; simp
  have W1 : Hid (Later w w1) := Lib.hid (((Later.refl _).alloc _).trans hb)
  clear hb
  go_wp2_with fail
  refine (l_toLayout a n cap L _ (HS.out.later W1.out) hle).mono ?_
  rintro e w2 ⟨g, rfl, hg, hr, hb⟩
  have hb : Later w1 w2 := hb
  have z2 := hb.size
  have b2 : w.heap.size < w2.heap.size := Nat.lt_of_lt_of_le b1 z2
  have c2 : w2.cell? ⟨w.heap.size, 0, none⟩ = some (.slice a n cap) := by rw [hb.cell (p := ⟨w.heap.size, 0, none⟩) b1]; exact c1
  have W2 : Hid (Later w w2) := Lib.hid (W1.out.trans hb)
  have S0 := Lib.hid (hr.sgs HS.out.1 (by omega) HS.out.2.2.2)
  clear hb c1 hr hg
  go_wp2_with fail
  refine (s_EnergyNeeded _ n n L p q _ S0.out).mono ?_
  rintro e w3 ⟨rfl, hb⟩
  have hb : Later w2 w3 := hb
  have z3 := hb.size
  have b3 : w.heap.size < w3.heap.size := Nat.lt_of_lt_of_le b2 z3
  have c3 : w3.cell? ⟨w.heap.size, 0, none⟩ = some (.slice a n cap) := by rw [hb.cell (p := ⟨w.heap.size, 0, none⟩) b2]; exact c2
  have W3 : Hid (Later w w3) := Lib.hid (W2.out.trans hb)
  have S0_3 := Lib.hid (S0.out.later hb)
  skip
  clear hb c2
  go_wp2_with fail
  refine (l_toLayout a n cap L _ (HS.out.later W3.out) hle).mono ?_
  rintro e w4 ⟨gx0, rfl, hgx, hr, hb⟩
  have hb : Later w3 w4 := hb
  have z4 := hb.size
  have b4 : w.heap.size < w4.heap.size := Nat.lt_of_lt_of_le b3 z4
  have c4 : w4.cell? ⟨w.heap.size, 0, none⟩ = some (.slice a n cap) := by rw [hb.cell (p := ⟨w.heap.size, 0, none⟩) b3]; exact c3
  have W4 : Hid (Later w w4) := Lib.hid (W3.out.trans hb)
  have X0 := Lib.hid hr
  have X0l := hr.lt
  clear hb c3 hr
  go_wp2_with fail
  refine (i_EnergyNeeded _ n n L p q _ ((X0.out.later ((Later.refl _).alloc _)).sgs HS.out.1 (by omega) HS.out.2.2.2)).mono ?_
  rintro e w5 ⟨rfl, hb⟩
  have hb : Later (w4.alloc (.cells #[.slice (some ⟨gx0, 0, none⟩) n n] 42)) w5 := hb
  have z5 : w4.heap.size + 1 ≤ w5.heap.size := by have := hb.size; rw [World.size_alloc] at this; exact this
  have b5 : w4.heap.size < w5.heap.size := by omega
  have c5 : w5.cell? ⟨w.heap.size, 0, none⟩ = some (.slice a n cap) := (hb.cell (p := ⟨w.heap.size, 0, none⟩) (by rw [World.size_alloc]; exact Nat.lt_succ_of_lt b4)).trans ((World.cell?_alloc_lt w4 _ ⟨w.heap.size, 0, none⟩ b4).trans c4)
  have d5 : w5.cell? ⟨w4.heap.size, 0, none⟩ = some (.slice (some ⟨gx0, 0, none⟩) n n) := by rw [hb.cell (p := ⟨w4.heap.size, 0, none⟩) (by simp)]; simp
  have W5 : Hid (Later w w5) := Lib.hid ((W4.out.alloc _).trans hb)
  have hbx : Later w4 w5 := ((Later.refl _).alloc _).trans hb
  have X0_5 := Lib.hid (X0.out.later hbx)
  skip
  clear hb hbx c4
  have K5 := Lib.hid (And.intro c5 d5)
  clear c5 d5
  obtain ⟨c5, d5⟩ := K5.out
  go_wp2_with fail
  go_region_held3 (fun w' => w'.cell? ⟨w.heap.size, 0, none⟩ = some (.slice a n cap) ∧ w'.cell? ⟨w4.heap.size, 0, none⟩ = some (.slice (some ⟨gx0, 0, none⟩) n n))
    (exact two_cells K5.out.1 (Nat.lt_trans b4 b5) K5.out.2 b5 (by repeat (first | (with_reducible exact Later.refl _) | (with_reducible exact Hid.out (by assumption)) | (with_reducible refine Later.alloc ?_ _) | (with_reducible refine Later.setCell ?_ (by simp; omega) _) | (with_reducible refine Later.setCell ?_ (by simp) _) | (with_reducible refine Later.drewN ?_ _) | (with_reducible refine Later.drew ?_) | (with_reducible refine Later.trans ?_ (Hid.out (by assumption))))))
    (first
      | (go_at_call 44; refine (l_toLayout a n cap L _ (HS.out.later (by repeat (first | (with_reducible exact Later.refl _) | (with_reducible exact Hid.out (by assumption)) | (with_reducible refine Later.alloc ?_ _) | (with_reducible refine Later.setCell ?_ (by simp; omega) _) | (with_reducible refine Later.setCell ?_ (by simp) _) | (with_reducible refine Later.drewN ?_ _) | (with_reducible refine Later.drew ?_) | (with_reducible refine Later.trans ?_ (Hid.out (by assumption)))))) hle).mono ?_; rintro e wp ⟨gp, rfl, hgp, hrp, hbp⟩; have HP := Lib.hid hbp; have SP := Lib.hid (hrp.sgs HS.out.1 (by omega) HS.out.2.2.2); clear hbp hrp hgp)
      | (go_at_call 46; refine (l_eqLayout_same _ _ n n n n L _ ((X0_5.out.sgs HS.out.1 (by omega) HS.out.2.2.2).later (by repeat (first | (with_reducible exact Later.refl _) | (with_reducible exact Hid.out (by assumption)) | (with_reducible refine Later.alloc ?_ _) | (with_reducible refine Later.setCell ?_ (by simp; omega) _) | (with_reducible refine Later.setCell ?_ (by simp) _) | (with_reducible refine Later.drewN ?_ _) | (with_reducible refine Later.drew ?_) | (with_reducible refine Later.trans ?_ (Hid.out (by assumption)))))) (SP.out.later (by repeat (first | (with_reducible exact Later.refl _) | (with_reducible exact Hid.out (by assumption)) | (with_reducible refine Later.alloc ?_ _) | (with_reducible refine Later.setCell ?_ (by simp; omega) _) | (with_reducible refine Later.setCell ?_ (by simp) _) | (with_reducible refine Later.drewN ?_ _) | (with_reducible refine Later.drew ?_) | (with_reducible refine Later.trans ?_ (Hid.out (by assumption))))))).mono ?_; rintro e wq ⟨rfl, hbq⟩; have HQ := Lib.hid hbq; clear hbq))
  all_goals
    go_wp2_with fail
    go_ret
    exact ⟨rfl, (by repeat (first | (with_reducible exact Later.refl _) | (with_reducible exact Hid.out (by assumption)) | (with_reducible refine Later.alloc ?_ _) | (with_reducible refine Later.setCell ?_ (by simp; omega) _) | (with_reducible refine Later.setCell ?_ (by simp) _) | (with_reducible refine Later.drewN ?_ _) | (with_reducible refine Later.drew ?_) | (with_reducible refine Later.trans ?_ (Hid.out (by assumption)))))⟩

end Go.Proofs.Ythheoeeobikkhaa
