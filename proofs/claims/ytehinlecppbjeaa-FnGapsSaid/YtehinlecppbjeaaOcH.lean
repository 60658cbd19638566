/- The walk of the law on trains that move. -/
import Derived.Test.YtehinlecppbjeaaOcG
import Derived.Test.YtehinlecppbjeaaOcR
import Derived.Test.YtehinlecppbjeaaOcU
import Derived.Test.YtehinlecppbjeaaDice
import Derived.Test.YtehinlecppbjeaaRow
namespace Go.Proofs.Ytehinlecppbjeaa
open Go.RowKit
set_option maxHeartbeats 4000000
set_option linter.unusedVariables false
set_option linter.unusedSimpArgs false
theorem tr_same {L : List Sg} {p x n : Int} (hv : layB L = true) (hp : 0 ≤ p ∧ p < totL L) (hx : 0 ≤ x ∧ x < totL L) : trE L x n = trE L p n := by
  unfold trE; rw [trsB_one, trsB_one, (isP_iff _ _).2 hp, (isP_iff _ _).2 hx]
theorem later_below {w w1 w2 : World} (h : Below w.heap.size w w1) (k : Later w1 w2) : Below w.heap.size w w2 := Below.trans h (Below.mono k h.size)
theorem below_later {w w' : World} (h : Below w.heap.size w w') : Later w w' := h
set_option maxRecDepth 100000 in
theorem walk_FnTrainsMove (a0 : Option Addr) (len0 cap0 : Nat) (z0 : List Int) (w : World) (w0 : IsRow .u8 w a0 len0 cap0 z0) :
    Calls Try.prog 3 #[.slice a0 len0 cap0] w fun e w' => e = .returned (.bool true) ∧ Below w.heap.size w w' := by
  have HS := Lib.hid (isRow_bytes w0)
  clear w0
  by_cases hbig : 4096 < len0
  · go_enter Try.func3, Try.ntmps3
    go_wp2_with fail
    refine (l_big _ _ _ _).mono ?_
    rintro e w' ⟨rfl, rfl⟩
    go_wp2
    go_ret
    exact ⟨rfl, Below.refl _ _⟩
  go_enter Try.func3, Try.ntmps3
  go_wp2_with fail
  refine (l_big _ _ _ _).mono ?_
  rintro e w' ⟨rfl, rfl⟩
  go_wp2_with fail
  refine (s_DrawMoveFront _ _ _ _ HS.out).mono ?_
  rintro e w1 ⟨a, n, cap, L, p, d, rfl, hl, hcap, hp, hd, bel⟩
  have L1 := Lib.hid hl
  have HP := Lib.hid hp
  have B1 := Lib.hid (below_later bel)
  have KB : Hid (∀ W', Later (w1.alloc (.cells #[.slice a n cap] 26)) W' → W'.cell? ⟨w1.heap.size, 0, none⟩ = some (.slice a n cap)) := Lib.hid (fun W' k => by rw [k.cell (p := ⟨w1.heap.size, 0, none⟩) (by simp)]; simp)
  have X1 := Lib.hid (show Later w1 (w1.alloc (.cells #[.slice a n cap] 26)) from (Later.refl _).alloc _)
  clear hl bel hbig hp
  go_wp2_with fail
  refine (i_MoveFront a n cap L p d _ (L1.out.later X1.out)).mono ?_
  rintro e w2 ⟨rfl, hb⟩
  have c2 := KB.out w2 hb
  have Y2 := Lib.hid hb
  clear hb
  go_wp2_with fail
  refine (s_MoveFront a n cap L p d _ (L1.out.later (X1.out.trans Y2.out))).mono ?_
  rintro e w3 ⟨rfl, hb⟩
  have Y3 := Lib.hid (Y2.out.trans hb)
  have W3 : Hid (Later w w3) := Lib.hid (B1.out.trans (X1.out.trans Y3.out))
  clear hb c2 Y2
  go_wp2_with fail
  refine (s_DrawRearOf _ _ _ _ (HS.out.later W3.out)).mono ?_
  rintro e w4 ⟨a4, n4, cap4, M, p4, q4, rfl, hl, hcap4, hp4, hq4, bel⟩
  have L4 := Lib.hid hl
  have HP4 := Lib.hid hp4
  have B4 := Lib.hid (below_later bel)
  have KC : Hid (∀ W', Later (w4.alloc (.cells #[.slice a4 n4 cap4] 26)) W' → W'.cell? ⟨w4.heap.size, 0, none⟩ = some (.slice a4 n4 cap4)) := Lib.hid (fun W' k => by rw [k.cell (p := ⟨w4.heap.size, 0, none⟩) (by simp)]; simp)
  have X4 := Lib.hid (show Later w4 (w4.alloc (.cells #[.slice a4 n4 cap4] 26)) from (Later.refl _).alloc _)
  clear hl bel hp4
  go_wp2_with fail
  refine (i_RearOf a4 n4 cap4 M p4 q4 _ (L4.out.later X4.out) HP4.out).mono ?_
  rintro e w5 ⟨rfl, hb⟩
  have c5 := KC.out w5 hb
  have Y5 := Lib.hid hb
  clear hb
  go_wp2_with fail
  refine (s_RearOf a4 n4 cap4 M p4 q4 _ (L4.out.later (X4.out.trans Y5.out))).mono ?_
  rintro e w6 ⟨rfl, hb⟩
  have Y6 : Hid (Later (w1.alloc (.cells #[.slice a n cap] 26)) w6) := Lib.hid (Y3.out.trans (B4.out.trans (X4.out.trans (Y5.out.trans hb))))
  have W6 : Hid (Later w w6) := Lib.hid (B1.out.trans (X1.out.trans Y6.out))
  clear hb c5 Y5 KC L4 X4 HP4 W3 Y3 B4
  have e1 : (movV L p d != movV L p d) = false := by simp
  have e2 : (rearV M p4 q4 != rearV M p4 q4) = false := by simp
  have e3 : (trE M p4 q4 != trE M p4 q4) = false := by simp
  have e4 : (mvE L p d != mvE L p d) = false := by simp
  by_cases he : mvE L p d = 0
  · obtain ⟨hv, hm⟩ := mvE_ok he
    obtain ⟨⟨p0, p1⟩, d0, d1⟩ := (mvB_iff _ _ _).1 hm
    obtain ⟨t1, t2⟩ := tot_bd hv
    have HV := Lib.hid hv
    have hmv : movV L p d = (p + d) % totL L := by unfold movV; rw [if_pos he]
    obtain ⟨x0, x1⟩ : 0 ≤ (p + d) % totL L ∧ (p + d) % totL L < totL L := mod_rng _ _ (by omega)
    have HRM : Hid (∀ k : Int, (((p + d) % totL L) - k + 1) % totL L = (rearK (totL L) p k + d) % totL L) := Lib.hid (fun k => rear_moves ⟨p0, p1⟩)
    rw [hmv]
    rw [hmv] at e1
    generalize hx : (p + d) % totL L = x at x0 x1 HRM e1 ⊢
    clear hx hmv hm
    rw [he]
    clear he e4
    go_wp2_with fail
    refine (l_roll _ _ _ _ _ (HS.out.later W6.out)).mono ?_
    rintro e w7 ⟨rfl, hdice, hlt, bel⟩
    have DI := Lib.hid hdice
    have Y7 := Lib.hid (Y6.out.trans (below_later bel))
    have z67 : w6.heap.size < w7.heap.size := hlt
    clear hdice bel hlt
    go_wp2_with fail
    refine (l_below _ _ _ _ _ _ DI.out (by omega) (by omega)).mono ?_
    rintro e w8 ⟨v, rfl, v0, v1, _, gr⟩
    have Y8 : Hid (Later (w1.alloc (.cells #[.slice a n cap] 26)) w8) := Lib.hid (Below.grown Y7.out gr Y7.out.size (fun k e => by have h1 := Option.some.inj e; have h2 := Y6.out.size; omega))
    have c8 := KB.out w8 Y8.out
    have W8 : Hid (Later w w8) := Lib.hid (B1.out.trans (X1.out.trans Y8.out))
    clear gr DI Y7 z67
    have hnr : IntKind.i64.wrap (1 + v) = 1 + v := IntWalk.i64_in _ (by omega)
    have hts := tr_same (n := 1 + v) HV.out ⟨p0, p1⟩ ⟨x0, x1⟩
    cases hN : isN (totL L) (1 + v)
    · have ht : trE L p (1 + v) = 2 := trE_no HV.out (by rw [hN]; rfl)
      have htx : trE L x (1 + v) = 2 := by rw [hts, ht]
      have HTP := Lib.hid ht; have HTX := Lib.hid htx
      clear ht htx hts
      go_wp2_with fail
      refine (i_RearOf a n cap L x (1 + v) _ (L1.out.later (X1.out.trans Y8.out)) ⟨by omega, by omega⟩).mono ?_
      rw [HTX.out]
      rintro e w9 ⟨rfl, hb⟩
      have Y9 := Lib.hid (Y8.out.trans hb)
      have c9 := KB.out w9 Y9.out
      clear hb c8
      go_wp2_with fail
      refine (i_RearOf a n cap L p (1 + v) _ (L1.out.later (X1.out.trans Y9.out)) HP.out).mono ?_
      rw [HTP.out]
      rintro e w10 ⟨rfl, hb⟩
      have W10 : Hid (Later w w10) := Lib.hid (B1.out.trans (X1.out.trans (Y9.out.trans hb)))
      clear hb c9
      go_wp2_with fail
      go_ret
      exact ⟨rfl, W10.out⟩
    · have ht : trE L p (1 + v) = 0 := trE_yes HV.out hN ((isP_iff _ _).2 ⟨p0, p1⟩)
      have htx : trE L x (1 + v) = 0 := by rw [hts, ht]
      have hra : rearV L x (1 + v) = rearK (totL L) x (1 + v) := by unfold rearV; rw [if_pos htx]
      have hrb : rearV L p (1 + v) = rearK (totL L) p (1 + v) := by unfold rearV; rw [if_pos ht]
      have heq : rearK (totL L) x (1 + v) = (rearK (totL L) p (1 + v) + d) % totL L := HRM.out (1 + v)
      obtain ⟨r0, r1⟩ : 0 ≤ rearK (totL L) p (1 + v) ∧ rearK (totL L) p (1 + v) < totL L := mod_rng _ _ (by omega)
      generalize hr : rearK (totL L) p (1 + v) = r at hrb heq r0 r1
      generalize hu : rearK (totL L) x (1 + v) = u at hra heq
      have hmc : mvE L r d = 0 := mvE_yes HV.out ((mvB_iff _ _ _).2 ⟨⟨r0, r1⟩, d0, d1⟩)
      have hmv : movV L r d = u := by unfold movV; rw [if_pos hmc, heq]
      have HTP := Lib.hid ht; have HTX := Lib.hid htx
      have HA := Lib.hid hra; have HB := Lib.hid hrb; have HMC := Lib.hid hmc; have HMV := Lib.hid hmv
      have e6 : (u == u) = true := by simp
      clear ht htx hts hra hrb heq hr hu hmc hmv
      go_wp2_with fail
      refine (i_RearOf a n cap L x (1 + v) _ (L1.out.later (X1.out.trans Y8.out)) ⟨by omega, by omega⟩).mono ?_
      rw [HTX.out, HA.out]
      rintro e w9 ⟨rfl, hb⟩
      have Y9 := Lib.hid (Y8.out.trans hb)
      have c9 := KB.out w9 Y9.out
      clear hb c8
      go_wp2_with fail
      refine (i_RearOf a n cap L p (1 + v) _ (L1.out.later (X1.out.trans Y9.out)) HP.out).mono ?_
      rw [HTP.out, HB.out]
      rintro e w10 ⟨rfl, hb⟩
      have Y10 := Lib.hid (Y9.out.trans hb)
      have c10 := KB.out w10 Y10.out
      clear hb c9
      go_wp2_with fail
      refine (i_MoveFront a n cap L r d _ (L1.out.later (X1.out.trans Y10.out))).mono ?_
      rw [HMC.out, HMV.out]
      rintro e w11 ⟨rfl, hb⟩
      have W11 : Hid (Later w w11) := Lib.hid (B1.out.trans (X1.out.trans (Y10.out.trans hb)))
      clear hb c10
      go_wp2_with fail
      go_ret
      exact ⟨rfl, W11.out⟩
  · have e5 : (mvE L p d != 0) = true := by simpa using he
    clear he
    go_wp2_with fail
    go_ret
    exact ⟨rfl, W6.out⟩
end Go.Proofs.Ytehinlecppbjeaa
