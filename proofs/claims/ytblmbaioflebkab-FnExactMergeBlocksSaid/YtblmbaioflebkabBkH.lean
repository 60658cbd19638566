/- The walk of the exact law on merged blocks. -/
import Derived.Test.YtblmbaioflebkabBkU
import Derived.Test.YtblmbaioflebkabSgC
import Derived.Test.YtblmbaioflebkabSgX
import Derived.Test.YtblmbaioflebkabMemO
import Derived.Test.YtblmbaioflebkabMarkS
import Derived.Test.YtblmbaioflebkabRow
namespace Go.Proofs.Ytblmbaioflebkab
open Go.RowKit
set_option maxHeartbeats 4000000
set_option linter.unusedVariables false
set_option linter.unusedSimpArgs false
theorem isRow_leH {k : IntKind} {w : World} {a : Option Addr} {len cap : Nat} {zs : List Int} (h : IsRow k w a len cap zs) : len ≤ cap := by
  rcases h with ⟨rfl, rfl, rfl, rfl⟩ | ⟨x, rfl, hl, _⟩
  · exact Nat.le_refl _
  · exact hl
theorem l_eqIH (a b : Option Addr) (n cap m cap' : Nat) (l : List Int) (w : World) (hs : Sl w a n l) (ht : Sl w b m l) :
    Calls Try.prog 9 #[.slice a n cap, .slice b m cap'] w fun e w' => e = .returned (.bool true) ∧ Later w w' :=
  (l_eqInt64S a b n cap m cap' l w hs ht).mono fun e w' ⟨he, q, hq⟩ => ⟨he, by rw [hq]; exact (Later.refl _).drewN q⟩
theorem later_gH {w w' : World} (h : Later w w') (row : Option Nat) : w.grownBy w' row := ⟨h.os, h.tape, h.output, h.size, fun k hk _ => h.block k hk⟩
theorem Own.keptH {w w' : World} {base : Nat} {v : Value} {l : List Int} {row : Option Nat} (h : Own w base v l) (hg : w.grownBy w' row) (hr : ∀ k, v.ownBlock = some k → row ≠ some k) : Own w' base v l := by
  refine ⟨h.1.kept hg ?_, h.2⟩
  cases hv : v.ownBlock with
  | none => exact .inl rfl
  | some k => exact .inr (fun e => hr k hv e.symm)
theorem Own.laterH {w w' : World} {base : Nat} {v : Value} {l : List Int} (h : Own w base v l) (k : Later w w') : Own w' base v l := h.keptH (later_gH k none) (fun _ _ e => by cases e)
theorem later_growH {w wr w5 : World} {row : Option Nat} (W : Later w wr) (hg : wr.grownBy w5 row) (hr : ∀ k, row = some k → w.heap.size ≤ k) : Later w w5 := Below.grown W hg W.size hr
theorem mrgV_len {L : List Sg} {F : List Int} {p : Int} : (mrgV L F p).length ≤ 8 := by
  unfold mrgV
  split
  · rename_i h
    unfold mrgE at h
    split at h
    · rename_i h0
      obtain ⟨b, rfl, hb, hv, hk, _⟩ := isNo_cases h0
      have := (bkC_iff L F).1 hk
      simp; omega
    · rename_i h0; exact absurd h h0
  · simp
set_option maxRecDepth 100000 in
theorem walk_FnExactMergeBlocks (a : Option Addr) (n cap : Nat) (L : List Sg) (A : Option Addr) (m capF : Nat) (Z : List Int) (p : Int) (w : World) (hcap : n ≤ cap) (hs : Sgs w a n L) (w1 : IsRow .i64 w A m capF Z) (w2 : (Lit.int .i64 p).wf = true) :
    Calls Try.prog 3 #[.agg #[.slice a n cap], .slice A m capF, .int .i64 p] w fun e w' => e = .returned (.bool true) ∧ Later w w' := by
  have HS := Lib.hid hs
  have hn := hs.2.1
  have hcF := isRow_leH w1
  obtain ⟨F, hF⟩ : ∃ F, F = Z.take m := ⟨_, rfl⟩
  have HF := Lib.hid (isRow_sl w1)
  rw [← hF] at HF
  have hm := HF.out.2.1
  obtain ⟨hp, hp2⟩ := i64w w2
  clear hs w1 hF
  have e0 : (mrgE L F p != mrgE L F p) = false := by simp
  have hlen := mrgV_len (L := L) (F := F) (p := p)
  by_cases hbm : 1048576 < m
  · go_enter Try.func3, Try.ntmps3
    go_wp2
    go_ret
    exact ⟨rfl, (by repeat (first | (with_reducible exact Later.refl _) | (with_reducible exact Hid.out (by assumption)) | (with_reducible refine Later.alloc ?_ _) | (with_reducible refine Later.setCell ?_ (by simp; omega) _) | (with_reducible refine Later.setCell ?_ (by simp) _) | (with_reducible refine Later.drewN ?_ _) | (with_reducible refine Later.drew ?_) | (with_reducible refine Later.trans ?_ (Hid.out (by assumption)))))⟩
  by_cases hbig : 1048576 < n
  · have hz := Lib.hid (szI_big hbig)
    go_enter Try.func3, Try.ntmps3
    go_wp2_with (go_at_call 4; refine (l_szLayout a n cap _ hn).mono ?_; rw [hz.out]; rintro e w1 ⟨rfl, hb⟩; have H := Lib.hid hb; clear hb)
    go_ret
    exact ⟨rfl, (by repeat (first | (with_reducible exact Later.refl _) | (with_reducible exact Hid.out (by assumption)) | (with_reducible refine Later.alloc ?_ _) | (with_reducible refine Later.setCell ?_ (by simp; omega) _) | (with_reducible refine Later.setCell ?_ (by simp) _) | (with_reducible refine Later.drewN ?_ _) | (with_reducible refine Later.drew ?_) | (with_reducible refine Later.trans ?_ (Hid.out (by assumption)))))⟩
  have hle : n ≤ 1048576 := by omega
  have hlm : m ≤ 1048576 := by omega
  have hz := Lib.hid (szI_ok hle)
  have hFl := Lib.hid HF.out.1
  clear hbig hbm
  go_enter Try.func3, Try.ntmps3
  go_wp2_with fail
  refine (l_szLayout a n cap _ hn).mono ?_
  rw [hz.out]
  rintro e w1 ⟨rfl, hb⟩
  have b1 : w.heap.size < w1.heap.size := by have := hb.size; simp at this; omega
  have c1 : w1.cell? ⟨w.heap.size, 0, none⟩ = some (.slice a n cap) := by rw [hb.cell (p := ⟨w.heap.size, 0, none⟩) (by simp)]; simp
  have W1 : Hid (Later w w1) := Lib.hid (((Later.refl _).alloc _).trans hb)
  clear hb
  go_wp2_with fail
  refine (l_toLayout a n cap L _ (HS.out.later W1.out) hle).mono ?_
  rintro e w2 ⟨g2, rfl, hg2, hr2, hb⟩
  have b2 : w.heap.size < w2.heap.size := Nat.lt_of_lt_of_le b1 hb.size
  have c2 : w2.cell? ⟨w.heap.size, 0, none⟩ = some (.slice a n cap) := by rw [hb.cell (p := ⟨w.heap.size, 0, none⟩) b1]; exact c1
  have W2 : Hid (Later w w2) := Lib.hid (W1.out.trans hb)
  have S2 := Lib.hid (hr2.sgs HS.out.1 (by omega) HS.out.2.2.2)
  clear hb hr2 hg2 c1
  go_wp2_with fail
  refine (l_toInt64S A m capF F _ (HF.out.later W2.out) hlm).mono ?_
  rintro e w3 ⟨g3, rfl, hg3, hr3, hs3, hb⟩
  have hb : Later w2 w3 := hb
  have b3 : w.heap.size < w3.heap.size := Nat.lt_of_lt_of_le b2 hb.size
  have c3 : w3.cell? ⟨w.heap.size, 0, none⟩ = some (.slice a n cap) := by rw [hb.cell (p := ⟨w.heap.size, 0, none⟩) b2]; exact c2
  have W3 : Hid (Later w w3) := Lib.hid (W2.out.trans hb)
  have S3 := Lib.hid (S2.out.later hb)
  have F3 := Lib.hid hs3
  clear hb hr3 hg3 hs3 c2
  go_wp2_with fail
  refine (s_MergeBlocks _ n n L _ m m F p _ S3.out F3.out (Nat.le_refl _) hp hp2).mono ?_
  rintro e w4 ⟨v4, rfl, ho4, hb⟩
  have b4 : w.heap.size < w4.heap.size := Nat.lt_of_lt_of_le b3 hb.size
  have c4 : w4.cell? ⟨w.heap.size, 0, none⟩ = some (.slice a n cap) := by rw [hb.cell (p := ⟨w.heap.size, 0, none⟩) b3]; exact c3
  have W4 : Hid (Later w w4) := Lib.hid (W3.out.trans hb)
  have O4 := Lib.hid ho4
  have l4 := Lib.hid ho4.lt
  clear hb c3 ho4
  go_wp2_with fail
  refine (l_toLayout a n cap L _ (HS.out.later W4.out) hle).mono ?_
  rintro e w5 ⟨g5, rfl, hg5, hr5, hb⟩
  have b5 : w.heap.size < w5.heap.size := Nat.lt_of_lt_of_le b4 hb.size
  have c5 : w5.cell? ⟨w.heap.size, 0, none⟩ = some (.slice a n cap) := by rw [hb.cell (p := ⟨w.heap.size, 0, none⟩) b4]; exact c4
  have W5 : Hid (Later w w5) := Lib.hid (W4.out.trans hb)
  have R5 := Lib.hid hr5
  have P5 := Lib.hid (O4.out.laterH hb)
  have g5l := hr5.lt
  clear hb hr5 c4
  go_wp2_with fail
  refine (l_toInt64O A m capF F _ (HF.out.later (W5.out.alloc _)) hlm).mono ?_
  rintro e w6 ⟨g6, rfl, hg6, hr6, ho6, hb⟩
  have hb : Later (w5.alloc _) w6 := hb
  have b6 : w5.heap.size < w6.heap.size := by have := hb.size; simp at this; omega
  have c6 : w6.cell? ⟨w.heap.size, 0, none⟩ = some (.slice a n cap) := (hb.cell (p := ⟨w.heap.size, 0, none⟩) (by rw [World.size_alloc]; exact Nat.lt_succ_of_lt b5)).trans ((World.cell?_alloc_lt w5 _ ⟨w.heap.size, 0, none⟩ b5).trans c5)
  have d6 : w6.cell? ⟨w5.heap.size, 0, none⟩ = some (.slice (some ⟨g5, 0, none⟩) n n) := by rw [hb.cell (p := ⟨w5.heap.size, 0, none⟩) (by simp)]; simp
  have W6 : Hid (Later w w6) := Lib.hid ((W5.out.alloc _).trans hb)
  have R6 := Lib.hid (R5.out.later (((Later.refl _).alloc _).trans hb))
  have P6 := Lib.hid (P5.out.laterH (((Later.refl _).alloc _).trans hb))
  have X6 := Lib.hid ho6
  have g56 : w5.heap.size < g6 := by rw [World.size_alloc] at hg6; omega
  obtain ⟨a6, cap6, e6, s6, _⟩ := ho6.sl
  have F6 : Hid (Sl w6 (some ⟨g6, 0, none⟩) m F) := Lib.hid (by rw [hFl.out] at e6 s6; cases e6; exact s6)
  clear hb c5 hg6 ho6 e6 s6
  go_wp2_with fail
  refine (i_MergeBlocks _ n n L _ m m F p _ (R6.out.sgs HS.out.1 (by omega) HS.out.2.2.2) F6.out (Nat.le_refl _) (Nat.le_refl _)).mono ?_
  rintro e w7 ⟨v7, rfl, ho7, hb⟩
  have b7 : w5.heap.size < w7.heap.size := Nat.lt_of_lt_of_le b6 hb.size
  have b70 : w.heap.size < w7.heap.size := Nat.lt_trans b5 b7
  have c7 := two_cells c6 (Nat.lt_trans b5 b6) d6 b6 hb
  have W7 : Hid (Later w w7) := Lib.hid (W6.out.trans hb)
  have R7 := Lib.hid (R6.out.later hb)
  have P7 := Lib.hid (P6.out.laterH hb)
  have X7 := Lib.hid (X6.out.laterH hb)
  have F7 := Lib.hid (F6.out.later hb)
  have Q7 := Lib.hid ho7
  have q7 := Lib.hid ho7.lt
  have g67 := hb.size
  clear hb c6 d6 ho7
  obtain ⟨a4, cap4, rfl, s4, _⟩ := P7.out.sl
  obtain ⟨a7, cap7, rfl, s7, _⟩ := Q7.out.sl
  have S4 := Lib.hid s4; have S7 := Lib.hid s7
  clear s4 s7
  go_wp2_with fail
  refine (l_eqIH _ _ _ _ _ _ _ _ S7.out S4.out).mono ?_
  rintro e w8 ⟨rfl, hb⟩
  have K8 := Lib.hid (two_cells c7.1 b70 c7.2 b7 hb)
  have b8 : w5.heap.size < w8.heap.size := Nat.lt_of_lt_of_le b7 hb.size
  have b80 : w.heap.size < w8.heap.size := Nat.lt_trans b5 b8
  have W8 : Hid (Later w w8) := Lib.hid (W7.out.trans hb)
  have R8 := Lib.hid (R7.out.later hb)
  have P8 := Lib.hid (P7.out.laterH hb)
  have X8 := Lib.hid (X7.out.laterH hb)
  have F8 := Lib.hid (F7.out.later hb)
  have Q8 := Lib.hid (Q7.out.laterH hb)
  obtain ⟨c8, d8⟩ := K8.out
  clear hb c7 S4 S7
  go_wp2_with fail
  go_region_held3 (fun w' => w'.cell? ⟨w.heap.size, 0, none⟩ = some (.slice a n cap) ∧ w'.cell? ⟨w5.heap.size, 0, none⟩ = some (.slice (some ⟨g5, 0, none⟩) n n))
    (exact two_cells K8.out.1 b80 K8.out.2 b8 (by repeat (first | (with_reducible exact Later.refl _) | (with_reducible exact Hid.out (by assumption)) | (with_reducible refine Later.alloc ?_ _) | (with_reducible refine Later.setCell ?_ (by simp; omega) _) | (with_reducible refine Later.setCell ?_ (by simp) _) | (with_reducible refine Later.drewN ?_ _) | (with_reducible refine Later.drew ?_) | (with_reducible refine Later.trans ?_ (Hid.out (by assumption))))))
    (first
      | (go_at_call 6; refine (l_toLayout a n cap L _ (HS.out.later (by repeat (first | (with_reducible exact Later.refl _) | (with_reducible exact Hid.out (by assumption)) | (with_reducible refine Later.alloc ?_ _) | (with_reducible refine Later.setCell ?_ (by simp; omega) _) | (with_reducible refine Later.setCell ?_ (by simp) _) | (with_reducible refine Later.drewN ?_ _) | (with_reducible refine Later.drew ?_) | (with_reducible refine Later.trans ?_ (Hid.out (by assumption)))))) hle).mono ?_; rintro e w9 ⟨g9, rfl, hg9, hr9, hb9⟩; have H9 := Lib.hid hb9; have S9 := Lib.hid (hr9.sgs HS.out.1 (by omega) HS.out.2.2.2); clear hb9 hr9 hg9)
      | (go_at_call 10; refine (l_eqLayout_same _ _ n n n n L _ ((R8.out.sgs HS.out.1 (by omega) HS.out.2.2.2).later (by repeat (first | (with_reducible exact Later.refl _) | (with_reducible exact Hid.out (by assumption)) | (with_reducible refine Later.alloc ?_ _) | (with_reducible refine Later.setCell ?_ (by simp; omega) _) | (with_reducible refine Later.setCell ?_ (by simp) _) | (with_reducible refine Later.drewN ?_ _) | (with_reducible refine Later.drew ?_) | (with_reducible refine Later.trans ?_ (Hid.out (by assumption)))))) (S9.out.later (by repeat (first | (with_reducible exact Later.refl _) | (with_reducible exact Hid.out (by assumption)) | (with_reducible refine Later.alloc ?_ _) | (with_reducible refine Later.setCell ?_ (by simp; omega) _) | (with_reducible refine Later.setCell ?_ (by simp) _) | (with_reducible refine Later.drewN ?_ _) | (with_reducible refine Later.drew ?_) | (with_reducible refine Later.trans ?_ (Hid.out (by assumption))))))).mono ?_; rintro e w10 ⟨rfl, hb10⟩; have H10 := Lib.hid hb10; clear hb10))
  all_goals
    go_wp2_with fail
    refine calls_into (fun W => Later w8 W) (by repeat (first | (with_reducible exact Later.refl _) | (with_reducible exact Hid.out (by assumption)) | (with_reducible refine Later.alloc ?_ _) | (with_reducible refine Later.setCell ?_ (by simp; omega) _) | (with_reducible refine Later.setCell ?_ (by simp) _) | (with_reducible refine Later.drewN ?_ _) | (with_reducible refine Later.drew ?_) | (with_reducible refine Later.trans ?_ (Hid.out (by assumption))))) ?_
    intro W hb
    have K9 := Lib.hid (two_cells c8 b80 d8 b8 hb)
    have b9 : w5.heap.size < W.heap.size := Nat.lt_of_lt_of_le b8 hb.size
    have W9 : Hid (Later w W) := Lib.hid (W8.out.trans hb)
    have R9 := Lib.hid (R8.out.later hb)
    have P9 := Lib.hid (P8.out.laterH hb)
    have X9 := Lib.hid (X8.out.laterH hb)
    have F9 := Lib.hid (F8.out.later hb)
    have Q9 := Lib.hid (Q8.out.laterH hb)
    obtain ⟨c9, d9⟩ := K9.out
    clear hb c8 d8 K8
    refine (l_toInt64S A m capF F _ (HF.out.later W9.out) hlm).mono ?_
    rintro e w10 ⟨g10, rfl, hg10, hr10, hs10, hb⟩
    have hb : Later W w10 := hb
    have F10 := Lib.hid hs10
    have K10 := Lib.hid (two_cells c9 (Nat.lt_trans b5 b9) d9 b9 hb)
    have b10 : w5.heap.size < w10.heap.size := Nat.lt_of_lt_of_le b9 hb.size
    have W10 : Hid (Later w w10) := Lib.hid (W9.out.trans hb)
    have R10 := Lib.hid (R9.out.later hb)
    have P10 := Lib.hid (P9.out.laterH hb)
    have X10 := Lib.hid (X9.out.laterH hb)
    have G10 := Lib.hid (F9.out.later hb)
    have Q10 := Lib.hid (Q9.out.laterH hb)
    clear hb hg10 hr10 hs10 c9 d9 K9
    go_wp2_with fail
    refine (l_eqIH _ _ m m m m F _ G10.out F10.out).mono ?_
    rintro e w11 ⟨rfl, hb⟩
    have K11 := Lib.hid (two_cells K10.out.1 (Nat.lt_trans b5 b10) K10.out.2 b10 hb)
    have b11 : w5.heap.size < w11.heap.size := Nat.lt_of_lt_of_le b10 hb.size
    have W11 : Hid (Later w w11) := Lib.hid (W10.out.trans hb)
    have R11 := Lib.hid (R10.out.later hb)
    have P11 := Lib.hid (P10.out.laterH hb)
    have X11 := Lib.hid (X10.out.laterH hb)
    have Q11 := Lib.hid (Q10.out.laterH hb)
    obtain ⟨c11, d11⟩ := K11.out
    clear hb
    go_wp2_with fail
    refine (l_markLayout g5 n n (flt L) _ R11.out hle).mono ?_
    rintro e w12 ⟨rfl, hr12, hg12⟩
    have P12 := Lib.hid (P11.out.keptH hg12 (fun k hk e => by have h1 := l4.out k hk; have h2 := Option.some.inj e; omega))
    have Q12 := Lib.hid (Q11.out.keptH hg12 (fun k hk e => by have h1 := q7.out k hk; have h2 := Option.some.inj e; omega))
    have X12 := Lib.hid (X11.out.keptH hg12 (fun k hk e => by have h1 := (X6.out.lt k hk).1; rw [World.size_alloc] at h1; have h2 := Option.some.inj e; omega))
    have W12 : Hid (Later w w12) := Lib.hid (later_growH W11.out hg12 (fun k e => by have h2 := Option.some.inj e; omega))
    have c12 : w12.cell? ⟨w.heap.size, 0, none⟩ = some (.slice a n cap) := hg12.cell c11 (fun e => by have h2 := Option.some.inj e; simp at h2; omega)
    have b12 : w5.heap.size < w12.heap.size := Nat.lt_of_lt_of_le b11 hg12.size
    clear hr12 hg12 c11 d11
    go_wp2_with fail
    refine (l_markK g6 m m _ (1 + 7 * (n : Int)) F _ X12.out hFl.out (by omega) (by omega) (by omega)).mono ?_
    rintro e w13 ⟨rfl, hg13⟩
    have P13 := Lib.hid (P12.out.keptH hg13 (fun k hk e => by have h1 := l4.out k hk; have h2 := Option.some.inj e; omega))
    have Q13 := Lib.hid (Q12.out.keptH hg13 (fun k hk e => by have h1 := q7.out k hk; have h2 := Option.some.inj e; omega))
    have W13 : Hid (Later w w13) := Lib.hid (later_growH W12.out hg13 (fun k e => by have h2 := Option.some.inj e; omega))
    have c13 : w13.cell? ⟨w.heap.size, 0, none⟩ = some (.slice a n cap) := hg13.cell c12 (fun e => by have h2 := Option.some.inj e; simp at h2; omega)
    have b13 : w5.heap.size < w13.heap.size := Nat.lt_of_lt_of_le b12 hg13.size
    clear hg13 c12
    obtain ⟨a9, cap9, e9, s9, _⟩ := P13.out.sl
    obtain ⟨a9', cap9', e9', s9', _⟩ := Q13.out.sl
    cases e9; cases e9'
    have S9 := Lib.hid s9; have S9' := Lib.hid s9'
    clear s9 s9'
    go_wp2_with fail
    refine (l_eqIH _ _ _ _ _ _ _ _ S9'.out S9.out).mono ?_
    rintro e w14 ⟨rfl, hb⟩
    have P14 := Lib.hid (P13.out.laterH hb)
    have Q14 := Lib.hid (Q13.out.laterH hb)
    have W14 : Hid (Later w w14) := Lib.hid (W13.out.trans hb)
    have c14 : w14.cell? ⟨w.heap.size, 0, none⟩ = some (.slice a n cap) := by rw [hb.cell (p := ⟨w.heap.size, 0, none⟩) (by show w.heap.size < w13.heap.size; omega)]; exact c13
    have b14 : w5.heap.size < w14.heap.size := Nat.lt_of_lt_of_le b13 hb.size
    clear hb c13 S9 S9'
    go_wp2_with fail
    refine (l_markInt64S _ _ _ _ Q14.out (by omega)).mono ?_
    rintro e w15 ⟨rfl, ho, hg⟩
    have M15 := Lib.hid ho
    have P15 := Lib.hid (P14.out.keptH hg (fun k hk e => by have h1 := l4.out k hk; have h2 := (q7.out k e).1; omega))
    have W15 : Hid (Later w w15) := Lib.hid (later_growH W14.out hg (fun k e => by have h2 := (q7.out k e).1; omega))
    have c15 : w15.cell? ⟨w.heap.size, 0, none⟩ = some (.slice a n cap) := hg.cell c14 (fun e => by have h2 := (q7.out _ e.symm).1; simp at h2; omega)
    have b15 : w5.heap.size < w15.heap.size := Nat.lt_of_lt_of_le b14 hg.size
    clear ho hg c14
    go_wp2_with fail
    refine (l_heldInt64S _ _ _ _ M15.out (by omega)).mono ?_
    rintro e w' ⟨rfl, rfl⟩
    go_wp2_with fail
    refine (l_toLayout a n cap L _ (HS.out.later W15.out) hle).mono ?_
    rintro e w16 ⟨g16, rfl, hg16, hr16, hb⟩
    have S16 := Lib.hid (hr16.sgs HS.out.1 (by omega) HS.out.2.2.2)
    have M16 := Lib.hid (M15.out.laterH hb)
    have P16 := Lib.hid (P15.out.laterH hb)
    have W16 : Hid (Later w w16) := Lib.hid (W15.out.trans hb)
    clear hb hr16 hg16 c15
    go_wp2_with fail
    refine (l_toInt64S A m capF F _ (HF.out.later W16.out) hlm).mono ?_
    rintro e w17 ⟨g17, rfl, hg17, hr17, hs17, hb⟩
    have hb : Later w16 w17 := hb
    have F17 := Lib.hid hs17
    have S17 := Lib.hid (S16.out.later hb)
    have M17 := Lib.hid (M16.out.laterH hb)
    have P17 := Lib.hid (P16.out.laterH hb)
    have W17 : Hid (Later w w17) := Lib.hid (W16.out.trans hb)
    clear hb hg17 hr17 hs17
    go_wp2_with fail
    refine (i_MergeBlocks _ n n L _ m m F p _ S17.out F17.out (Nat.le_refl _) (Nat.le_refl _)).mono ?_
    rintro e w18 ⟨v18, rfl, ho18, hb⟩
    have M18 := Lib.hid (M17.out.laterH hb)
    have P18 := Lib.hid (P17.out.laterH hb)
    have W18 : Hid (Later w w18) := Lib.hid (W17.out.trans hb)
    obtain ⟨a18, cap18, rfl, s18, _⟩ := ho18.sl
    obtain ⟨b3', cap3', e3, s3, _⟩ := P18.out.sl
    cases e3
    have S18 := Lib.hid s18; have S3' := Lib.hid s3
    clear hb ho18 s18 s3
    go_wp2_with fail
    refine (l_eqIH _ _ _ _ _ _ _ _ S18.out S3'.out).mono ?_
    rintro e w19 ⟨rfl, hb⟩
    have M19 := Lib.hid (M18.out.laterH hb)
    have W19 : Hid (Later w w19) := Lib.hid (W18.out.trans hb)
    clear hb
    go_wp2_with fail
    refine (l_heldInt64S _ _ _ _ M19.out (by omega)).mono ?_
    rintro e w' ⟨rfl, rfl⟩
    go_wp2_with fail
    go_ret
    exact ⟨rfl, W19.out⟩
end Go.Proofs.Ytblmbaioflebkab
