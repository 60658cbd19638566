/- The walk of the exact law on default blocks. -/
import Derived.Test.YtblmbaioflebkaaSgG
import Derived.Test.YtblmbaioflebkaaBkD
namespace Go.Proofs.Ytblmbaioflebkaa
open Go.RowKit
set_option maxHeartbeats 4000000
set_option linter.unusedVariables false
set_option linter.unusedSimpArgs false
theorem dflV_len (L : List Sg) : (dflV L).length ≤ 24 := by
  unfold dflV
  split
  · rename_i h
    unfold dflE at h
    split at h
    · split at h
      · omega
      · split at h <;> omega
    · omega
  · simp
set_option maxRecDepth 100000 in
theorem walk_FnExactDefaultBlocks (a : Option Addr) (n cap : Nat) (L : List Sg) (w : World) (hcap : n ≤ cap) (hs : Sgs w a n L) :
    Calls Try.prog 7 #[.agg #[.slice a n cap]] w fun e w' => e = .returned (.bool true) ∧ Later w w' := by
  have HS := Lib.hid hs
  have hn := hs.2.1
  clear hs
  have e0 : (dflE L != dflE L) = false := by simp
  by_cases hbig : 1048576 < n
  · have hz := Lib.hid (szI_big hbig)
    go_enter Try.func7, Try.ntmps7
    go_wp2_with (go_at_call 33; refine (l_szLayout a n cap _ hn).mono ?_; rw [hz.out]; rintro e w1 ⟨rfl, hb⟩; have H := Lib.hid hb; clear hb)
    go_ret
    exact ⟨rfl, (by repeat (first | (with_reducible exact Later.refl _) | (with_reducible exact Hid.out (by assumption)) | (with_reducible refine Later.alloc ?_ _) | (with_reducible refine Later.drewN ?_ _) | (with_reducible refine Later.drew ?_) | (with_reducible refine Later.trans ?_ (Hid.out (by assumption)))))⟩
  · have hle : n ≤ 1048576 := by omega
    have hz := Lib.hid (szI_ok hle)
    have hlen := dflV_len L
    clear hbig
    go_enter Try.func7, Try.ntmps7
    go_wp2_with fail
    refine (l_szLayout a n cap _ hn).mono ?_
    rw [hz.out]
    rintro e w1 ⟨rfl, hb⟩
    have b1 : w.heap.size < w1.heap.size := by have := hb.size; simp at this; omega
    have c1 : w1.cell? ⟨w.heap.size, 0, none⟩ = some (.slice a n cap) := by rw [hb.cell (p := ⟨w.heap.size, 0, none⟩) (by simp)]; simp
    have W1 : Hid (Later w w1) := Lib.hid (((Later.refl _).alloc _).trans hb)
    clear hb
    go_wp2_with fail
    refine (l_toLayout a n cap L _ (HS.out.later W1.out) hle).mono ?_
    rintro e w2 ⟨g2, rfl, hg2, hr2, hb⟩
    have b2 : w.heap.size < w2.heap.size := Nat.lt_of_lt_of_le b1 hb.size
    have c2 : w2.cell? ⟨w.heap.size, 0, none⟩ = some (.slice a n cap) := by rw [hb.cell (p := ⟨w.heap.size, 0, none⟩) b1]; exact c1
    have W2 : Hid (Later w w2) := Lib.hid (W1.out.trans hb)
    have S2 := Lib.hid (hr2.sgs HS.out.1 (by omega) HS.out.2.2.2)
    clear hb hr2 hg2 c1
    go_wp2_with fail
    refine (s_DefaultBlocks _ n n L _ S2.out).mono ?_
    rintro e w3 ⟨v3, rfl, ho3, hb⟩
    have b3 : w.heap.size < w3.heap.size := Nat.lt_of_lt_of_le b2 hb.size
    have c3 : w3.cell? ⟨w.heap.size, 0, none⟩ = some (.slice a n cap) := by rw [hb.cell (p := ⟨w.heap.size, 0, none⟩) b2]; exact c2
    have W3 : Hid (Later w w3) := Lib.hid (W2.out.trans hb)
    have O3 := Lib.hid ho3
    clear hb c2 ho3
    go_wp2_with fail
    refine (l_toLayout a n cap L _ (HS.out.later W3.out) hle).mono ?_
    rintro e w4 ⟨g4, rfl, hg4, hr4, hb⟩
    have b4 : w.heap.size < w4.heap.size := Nat.lt_of_lt_of_le b3 hb.size
    have c4 : w4.cell? ⟨w.heap.size, 0, none⟩ = some (.slice a n cap) := by rw [hb.cell (p := ⟨w.heap.size, 0, none⟩) b3]; exact c3
    have W4 : Hid (Later w w4) := Lib.hid (W3.out.trans hb)
    have R4 := Lib.hid hr4
    have O4 := Lib.hid (O3.out.later hb)
    have l4 := hr4.lt
    clear hb hr4 c3
    go_wp2_with fail
    refine (i_DefaultBlocks _ n n L _ ((R4.out.sgs HS.out.1 (by omega) HS.out.2.2.2).later ((Later.refl _).alloc _)) (Nat.le_refl _)).mono ?_
    rintro e w5 ⟨v5, rfl, ho5, hb⟩
    have b5 : w4.heap.size < w5.heap.size := by have := hb.size; simp at this; omega
    have c5 : w5.cell? ⟨w.heap.size, 0, none⟩ = some (.slice a n cap) := (hb.cell (p := ⟨w.heap.size, 0, none⟩) (by rw [World.size_alloc]; exact Nat.lt_succ_of_lt b4)).trans ((World.cell?_alloc_lt w4 _ ⟨w.heap.size, 0, none⟩ b4).trans c4)
    have d5 : w5.cell? ⟨w4.heap.size, 0, none⟩ = some (.slice (some ⟨g4, 0, none⟩) n n) := by rw [hb.cell (p := ⟨w4.heap.size, 0, none⟩) (by simp)]; simp
    have W5 : Hid (Later w w5) := Lib.hid ((W4.out.alloc _).trans hb)
    have R5 := Lib.hid (R4.out.later (((Later.refl _).alloc _).trans hb))
    have P5 := Lib.hid (O4.out.later (((Later.refl _).alloc _).trans hb))
    have O5 := Lib.hid ho5
    rw [World.size_alloc] at ho5
    have l5 := ho5.lt
    have Q5 := Lib.hid ho5
    clear hb c4 ho5
    obtain ⟨a3, cap3, rfl, s3, _⟩ := P5.out.sl
    obtain ⟨a5, cap5, rfl, s5, _⟩ := Q5.out.sl
    have S3 := Lib.hid s3; have S5 := Lib.hid s5
    clear s3 s5
    go_wp2_with fail
    refine (l_eqI _ _ _ _ _ _ _ _ S5.out S3.out).mono ?_
    rintro e w6 ⟨rfl, hb⟩
    have K6 := Lib.hid (two_cells c5 (by omega) d5 b5 hb)
    have B6 : w4.heap.size < w6.heap.size := Nat.lt_of_lt_of_le b5 hb.size
    have W6 : Hid (Later w w6) := Lib.hid (W5.out.trans hb)
    have R6 := Lib.hid (R5.out.later hb)
    have P6 := Lib.hid (P5.out.later hb)
    have Q6 := Lib.hid (Q5.out.later hb)
    obtain ⟨c6, d6⟩ := K6.out
    clear hb c5 d5 S3 S5
    go_wp2_with fail
    go_region_held3 (fun w' => w'.cell? ⟨w.heap.size, 0, none⟩ = some (.slice a n cap) ∧ w'.cell? ⟨w4.heap.size, 0, none⟩ = some (.slice (some ⟨g4, 0, none⟩) n n))
      (exact two_cells K6.out.1 (Nat.lt_trans b4 B6) K6.out.2 B6 (by repeat (first | (with_reducible exact Later.refl _) | (with_reducible exact Hid.out (by assumption)) | (with_reducible refine Later.alloc ?_ _) | (with_reducible refine Later.drewN ?_ _) | (with_reducible refine Later.drew ?_) | (with_reducible refine Later.trans ?_ (Hid.out (by assumption))))))
      (first
        | (go_at_call 34; refine (l_toLayout a n cap L _ (HS.out.later (by repeat (first | (with_reducible exact Later.refl _) | (with_reducible exact Hid.out (by assumption)) | (with_reducible refine Later.alloc ?_ _) | (with_reducible refine Later.drewN ?_ _) | (with_reducible refine Later.drew ?_) | (with_reducible refine Later.trans ?_ (Hid.out (by assumption)))))) hle).mono ?_; rintro e w7 ⟨g7, rfl, hg7, hr7, hb7⟩; have H7 := Lib.hid hb7; have S7 := Lib.hid (hr7.sgs HS.out.1 (by omega) HS.out.2.2.2); clear hb7 hr7 hg7)
        | (go_at_call 36; refine (l_eqLayout_same _ _ n n n n L _ ((R6.out.sgs HS.out.1 (by omega) HS.out.2.2.2).later (by repeat (first | (with_reducible exact Later.refl _) | (with_reducible exact Hid.out (by assumption)) | (with_reducible refine Later.alloc ?_ _) | (with_reducible refine Later.drewN ?_ _) | (with_reducible refine Later.drew ?_) | (with_reducible refine Later.trans ?_ (Hid.out (by assumption)))))) (S7.out.later (by repeat (first | (with_reducible exact Later.refl _) | (with_reducible exact Hid.out (by assumption)) | (with_reducible refine Later.alloc ?_ _) | (with_reducible refine Later.drewN ?_ _) | (with_reducible refine Later.drew ?_) | (with_reducible refine Later.trans ?_ (Hid.out (by assumption))))))).mono ?_; rintro e w8 ⟨rfl, hb8⟩; have H8 := Lib.hid hb8; clear hb8))
    go_wp2_with fail
    refine calls_into (fun W => Later w6 W) (by repeat (first | (with_reducible exact Later.refl _) | (with_reducible exact Hid.out (by assumption)) | (with_reducible refine Later.alloc ?_ _) | (with_reducible refine Later.drewN ?_ _) | (with_reducible refine Later.drew ?_) | (with_reducible refine Later.trans ?_ (Hid.out (by assumption))))) ?_
    intro W hb
    have l3 := P6.out.lt
    have K7 := Lib.hid (two_cells c6 (by omega) d6 B6 hb)
    have B7 : w4.heap.size < W.heap.size := Nat.lt_of_lt_of_le B6 hb.size
    have W7 : Hid (Later w W) := Lib.hid (W6.out.trans hb)
    have R7 := Lib.hid (R6.out.later hb)
    have P7 := Lib.hid (P6.out.later hb)
    have Q7 := Lib.hid (Q6.out.later hb)
    have PL := Lib.hid O3.out.lt
    have z34 := Nat.le_of_lt (Nat.lt_of_le_of_lt hg4 l4)
    have QL := Lib.hid l5
    obtain ⟨c7, d7⟩ := K7.out
    clear hb c6 d6 K6 l3 l5
    refine (l_markLayout g4 n n (flt L) _ R7.out hle).mono ?_
    rintro e w9 ⟨rfl, hr9, hg9⟩
    have P9 := Lib.hid (P7.out.kept2 hg9 (fun k hk e => by have h1 := PL.out k hk; have h2 := Option.some.inj e; omega))
    have Q9 := Lib.hid (Q7.out.kept2 hg9 (fun k hk e => by have h1 := (QL.out k hk).1; have h2 := Option.some.inj e; omega))
    have W9 : Hid (Later w w9) := Lib.hid (later_grow W7.out hg9 (fun k e => by have h2 := Option.some.inj e; omega))
    have c9 : w9.cell? ⟨w.heap.size, 0, none⟩ = some (.slice a n cap) := hg9.cell c7 (by simp; omega)
    have B9 : w4.heap.size < w9.heap.size := Nat.lt_of_lt_of_le B7 hg9.size
    clear hr9 hg9 c7 d7
    obtain ⟨a9, cap9, e9, s9, _⟩ := P9.out.sl
    obtain ⟨a9', cap9', e9', s9', _⟩ := Q9.out.sl
    cases e9; cases e9'
    have S9 := Lib.hid s9; have S9' := Lib.hid s9'
    clear s9 s9'
    go_wp2_with fail
    refine (l_eqI _ _ _ _ _ _ _ _ S9'.out S9.out).mono ?_
    rintro e w10 ⟨rfl, hb⟩
    have P10 := Lib.hid (P9.out.later hb)
    have Q10 := Lib.hid (Q9.out.later hb)
    have W10 : Hid (Later w w10) := Lib.hid (W9.out.trans hb)
    have c10 : w10.cell? ⟨w.heap.size, 0, none⟩ = some (.slice a n cap) := by rw [hb.cell (p := ⟨w.heap.size, 0, none⟩) (by show w.heap.size < w9.heap.size; omega)]; exact c9
    have B10 : w4.heap.size < w10.heap.size := Nat.lt_of_lt_of_le B9 hb.size
    clear hb c9 S9 S9'
    go_wp2_with fail
    refine (l_markInt64S _ _ _ _ Q10.out (by omega)).mono ?_
    rintro e w11 ⟨rfl, ho, hg⟩
    have M11 := Lib.hid ho
    have P11 := Lib.hid (P10.out.kept2 hg (fun k hk e => by have h1 := PL.out k hk; have h2 := (QL.out k e).1; omega))
    have W11 : Hid (Later w w11) := Lib.hid (later_grow W10.out hg (fun k e => by have h2 := (QL.out k e).1; omega))
    have c11 : w11.cell? ⟨w.heap.size, 0, none⟩ = some (.slice a n cap) := hg.cell c10 (fun e => by have h2 := (QL.out _ e.symm).1; simp at h2; omega)
    have B11 : w4.heap.size < w11.heap.size := Nat.lt_of_lt_of_le B10 hg.size
    clear ho hg c10
    go_wp2_with fail
    refine (l_heldInt64S _ _ _ _ M11.out (by omega)).mono ?_
    rintro e w' ⟨rfl, rfl⟩
    go_wp2_with fail
    refine (l_toLayout a n cap L _ (HS.out.later W11.out) hle).mono ?_
    rintro e w12 ⟨g12, rfl, hg12, hr12, hb⟩
    have S12 := Lib.hid (hr12.sgs HS.out.1 (by omega) HS.out.2.2.2)
    have M12 := Lib.hid (M11.out.later hb)
    have P12 := Lib.hid (P11.out.later hb)
    have W12 : Hid (Later w w12) := Lib.hid (W11.out.trans hb)
    clear hb hr12 hg12 c11
    go_wp2_with fail
    refine (i_DefaultBlocks _ n n L _ S12.out (Nat.le_refl _)).mono ?_
    rintro e w13 ⟨v13, rfl, ho13, hb⟩
    have M13 := Lib.hid (M12.out.later hb)
    have P13 := Lib.hid (P12.out.later hb)
    have W13 : Hid (Later w w13) := Lib.hid (W12.out.trans hb)
    obtain ⟨a13, cap13, rfl, s13, _⟩ := ho13.sl
    obtain ⟨b3', cap3', e3, s3, _⟩ := P13.out.sl
    cases e3
    have S13 := Lib.hid s13; have S3 := Lib.hid s3
    clear hb ho13 s13 s3
    go_wp2_with fail
    refine (l_eqI _ _ _ _ _ _ _ _ S13.out S3.out).mono ?_
    rintro e w14 ⟨rfl, hb⟩
    have M14 := Lib.hid (M13.out.later hb)
    have W14 : Hid (Later w w14) := Lib.hid (W13.out.trans hb)
    clear hb
    go_wp2_with fail
    refine (l_heldInt64S _ _ _ _ M14.out (by omega)).mono ?_
    rintro e w' ⟨rfl, rfl⟩
    go_wp2_with fail
    go_ret
    exact ⟨rfl, W14.out⟩
end Go.Proofs.Ytblmbaioflebkaa
