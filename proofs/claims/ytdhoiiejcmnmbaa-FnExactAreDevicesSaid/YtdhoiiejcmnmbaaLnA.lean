/- The walk of the exact law on devices. -/
import Derived.Test.YtdhoiiejcmnmbaaLnD
import Derived.Test.YtdhoiiejcmnmbaaSgC
import Derived.Test.YtdhoiiejcmnmbaaSgX
import Derived.Test.YtdhoiiejcmnmbaaMem
import Derived.Test.YtdhoiiejcmnmbaaRow
namespace Go.Proofs.Ytdhoiiejcmnmbaa
open Go.RowKit
set_option maxHeartbeats 4000000
set_option linter.unusedVariables false
set_option linter.unusedSimpArgs false
theorem isRow_leA {k : IntKind} {w : World} {a : Option Addr} {len cap : Nat} {zs : List Int} (h : IsRow k w a len cap zs) : len ≤ cap := by
  rcases h with ⟨rfl, rfl, rfl, rfl⟩ | ⟨x, rfl, hl, _⟩
  · exact Nat.le_refl _
  · exact hl
theorem l_eqIA (a b : Option Addr) (n cap m cap' : Nat) (l : List Int) (w : World) (hs : Sl w a n l) (ht : Sl w b m l) :
    Calls Try.prog 36 #[.slice a n cap, .slice b m cap'] w fun e w' => e = .returned (.bool true) ∧ Later w w' :=
  (l_eqInt64S a b n cap m cap' l w hs ht).mono fun e w' ⟨he, q, hq⟩ => ⟨he, by rw [hq]; exact (Later.refl _).drewN q⟩

set_option maxRecDepth 100000 in
theorem walk_FnExactAreDevices (a : Option Addr) (n cap : Nat) (L : List Sg) (A : Option Addr) (m capF : Nat) (Z : List Int) (w : World) (hcap : n ≤ cap) (hs : Sgs w a n L) (w1 : IsRow .i64 w A m capF Z) :
    Calls Try.prog 5 #[.agg #[.slice a n cap], .slice A m capF] w fun e w' => e = .returned (.bool true) ∧ Later w w' := by
  have HS := Lib.hid hs
  have hn := hs.2.1
  have hcF := isRow_leA w1
  obtain ⟨F, hF⟩ : ∃ F, F = Z.take m := ⟨_, rfl⟩
  have HF := Lib.hid (isRow_sl w1)
  rw [← hF] at HF
  have hm := HF.out.2.1
  skip
  clear hs w1 hF
  have e0 : (areB L F != areB L F) = false := by simp
  by_cases hbm : 1048576 < m
  · go_enter Try.func5, Try.ntmps5
    go_wp2
    go_ret
    exact ⟨rfl, (by repeat (first | (with_reducible exact Later.refl _) | (with_reducible exact Hid.out (by assumption)) | (with_reducible refine Later.alloc ?_ _) | (with_reducible refine Later.setCell ?_ (by simp; omega) _) | (with_reducible refine Later.setCell ?_ (by simp) _) | (with_reducible refine Later.drewN ?_ _) | (with_reducible refine Later.drew ?_) | (with_reducible refine Later.trans ?_ (Hid.out (by assumption)))))⟩
  by_cases hbig : 1048576 < n
  · have hz := Lib.hid (szI_big hbig)
    go_enter Try.func5, Try.ntmps5
    go_wp2_with (go_at_call 30; refine (l_szLayout a n cap _ hn).mono ?_; rw [hz.out]; rintro e w1 ⟨rfl, hb⟩; have H := Lib.hid hb; clear hb)
    go_ret
    exact ⟨rfl, (by repeat (first | (with_reducible exact Later.refl _) | (with_reducible exact Hid.out (by assumption)) | (with_reducible refine Later.alloc ?_ _) | (with_reducible refine Later.setCell ?_ (by simp; omega) _) | (with_reducible refine Later.setCell ?_ (by simp) _) | (with_reducible refine Later.drewN ?_ _) | (with_reducible refine Later.drew ?_) | (with_reducible refine Later.trans ?_ (Hid.out (by assumption)))))⟩
  have hle : n ≤ 1048576 := by omega
  have hlm : m ≤ 1048576 := by omega
  have hz := Lib.hid (szI_ok hle)
  clear hbig hbm
  go_enter Try.func5, Try.ntmps5
  go_wp2_with fail
  refine (l_szLayout a n cap _ hn).mono ?_
  rw [hz.out]
  rintro e w1 ⟨rfl, hb⟩
  have b1 : w.heap.size < w1.heap.size := by have := hb.size; simp at this; omega
  have c1 : w1.cell? ⟨w.heap.size, 0, none⟩ = some (.slice a n cap) := by rw [hb.cell (p := ⟨w.heap.size, 0, none⟩) (by simp)]; simp
  have W1 : Hid (Later w w1) := Lib.hid (((Later.refl _).alloc _).trans hb)
  clear hb
  go_wp2_with fail
  refine (l_toLayout a n cap L _ (HS.out.later W1.out) hle).mono ?_
  rintro e w2 ⟨g2, rfl, hg2, hr2, hb⟩
  have b2 : w.heap.size < w2.heap.size := Nat.lt_of_lt_of_le b1 hb.size
  have c2 : w2.cell? ⟨w.heap.size, 0, none⟩ = some (.slice a n cap) := by rw [hb.cell (p := ⟨w.heap.size, 0, none⟩) b1]; exact c1
  have W2 : Hid (Later w w2) := Lib.hid (W1.out.trans hb)
  have S2 := Lib.hid (hr2.sgs HS.out.1 (by omega) HS.out.2.2.2)
  clear hb hr2 hg2 c1
  go_wp2_with fail
  refine (l_toInt64S A m capF F _ (HF.out.later W2.out) hlm).mono ?_
  rintro e w3 ⟨g3, rfl, hg3, hr3, hs3, hb⟩
  have hb : Later w2 w3 := hb
  have b3 : w.heap.size < w3.heap.size := Nat.lt_of_lt_of_le b2 hb.size
  have c3 : w3.cell? ⟨w.heap.size, 0, none⟩ = some (.slice a n cap) := by rw [hb.cell (p := ⟨w.heap.size, 0, none⟩) b2]; exact c2
  have W3 : Hid (Later w w3) := Lib.hid (W2.out.trans hb)
  have S3 := Lib.hid (S2.out.later hb)
  have F3 := Lib.hid hs3
  clear hb hr3 hg3 hs3 c2
  go_wp2_with fail
  refine (s_AreDevices _ n n L _ m m F _ S3.out F3.out).mono ?_
  rintro e w4 ⟨rfl, hb⟩
  have b4 : w.heap.size < w4.heap.size := Nat.lt_of_lt_of_le b3 hb.size
  have c4 : w4.cell? ⟨w.heap.size, 0, none⟩ = some (.slice a n cap) := by rw [hb.cell (p := ⟨w.heap.size, 0, none⟩) b3]; exact c3
  have W4 : Hid (Later w w4) := Lib.hid (W3.out.trans hb)
  clear hb c3
  go_wp2_with fail
  refine (l_toLayout a n cap L _ (HS.out.later W4.out) hle).mono ?_
  rintro e w5 ⟨g5, rfl, hg5, hr5, hb⟩
  have b5 : w.heap.size < w5.heap.size := Nat.lt_of_lt_of_le b4 hb.size
  have c5 : w5.cell? ⟨w.heap.size, 0, none⟩ = some (.slice a n cap) := by rw [hb.cell (p := ⟨w.heap.size, 0, none⟩) b4]; exact c4
  have W5 : Hid (Later w w5) := Lib.hid (W4.out.trans hb)
  have S5 := Lib.hid (hr5.sgs HS.out.1 (by omega) HS.out.2.2.2)
  clear hb hr5 hg5 c4
  go_wp2_with fail
  refine (l_toInt64S A m capF F _ (HF.out.later (W5.out.alloc _)) hlm).mono ?_
  rintro e w6 ⟨g6, rfl, hg6, hr6, hs6, hb⟩
  have hb : Later (w5.alloc _) w6 := hb
  have b6 : w5.heap.size < w6.heap.size := by have := hb.size; simp at this; omega
  have c6 : w6.cell? ⟨w.heap.size, 0, none⟩ = some (.slice a n cap) := (hb.cell (p := ⟨w.heap.size, 0, none⟩) (by rw [World.size_alloc]; exact Nat.lt_succ_of_lt b5)).trans ((World.cell?_alloc_lt w5 _ ⟨w.heap.size, 0, none⟩ b5).trans c5)
  have d6 : w6.cell? ⟨w5.heap.size, 0, none⟩ = some (.slice (some ⟨g5, 0, none⟩) n n) := by rw [hb.cell (p := ⟨w5.heap.size, 0, none⟩) (by simp)]; simp
  have W6 : Hid (Later w w6) := Lib.hid ((W5.out.alloc _).trans hb)
  have S6 := Lib.hid (S5.out.later (((Later.refl _).alloc _).trans hb))
  have F6 := Lib.hid hs6
  clear hb c5 hg6 hr6 hs6
  go_wp2_with fail
  refine (i_AreDevices _ n n L _ m m F _ S6.out F6.out).mono ?_
  rintro e w7 ⟨rfl, hb⟩
  have b7 : w5.heap.size < w7.heap.size := Nat.lt_of_lt_of_le b6 hb.size
  have b70 : w.heap.size < w7.heap.size := Nat.lt_trans b5 b7
  have K7 := Lib.hid (show w7.cell? ⟨w.heap.size, 0, none⟩ = some (.slice a n cap) ∧ w7.cell? ⟨w5.heap.size, 0, none⟩ = some (.slice (some ⟨g5, 0, none⟩) n n) from two_cells c6 (Nat.lt_trans b5 b6) d6 b6 hb)
  have W7 : Hid (Later w w7) := Lib.hid (W6.out.trans hb)
  have S7 := Lib.hid (S6.out.later hb)
  have F7 := Lib.hid (F6.out.later hb)
  obtain ⟨c7, d7⟩ := K7.out
  clear hb c6 d6
  go_wp2_with fail
  go_region_held3 (fun w' => w'.cell? ⟨w.heap.size, 0, none⟩ = some (.slice a n cap) ∧ w'.cell? ⟨w5.heap.size, 0, none⟩ = some (.slice (some ⟨g5, 0, none⟩) n n))
    (exact two_cells K7.out.1 b70 K7.out.2 b7 (by repeat (first | (with_reducible exact Later.refl _) | (with_reducible exact Hid.out (by assumption)) | (with_reducible refine Later.alloc ?_ _) | (with_reducible refine Later.setCell ?_ (by simp; omega) _) | (with_reducible refine Later.setCell ?_ (by simp) _) | (with_reducible refine Later.drewN ?_ _) | (with_reducible refine Later.drew ?_) | (with_reducible refine Later.trans ?_ (Hid.out (by assumption))))))
    (first
      | (go_at_call 32; refine (l_toLayout a n cap L _ (HS.out.later (by repeat (first | (with_reducible exact Later.refl _) | (with_reducible exact Hid.out (by assumption)) | (with_reducible refine Later.alloc ?_ _) | (with_reducible refine Later.setCell ?_ (by simp; omega) _) | (with_reducible refine Later.setCell ?_ (by simp) _) | (with_reducible refine Later.drewN ?_ _) | (with_reducible refine Later.drew ?_) | (with_reducible refine Later.trans ?_ (Hid.out (by assumption)))))) hle).mono ?_; rintro e w8 ⟨g8, rfl, hg8, hr8, hb8⟩; have H8 := Lib.hid hb8; have S8 := Lib.hid (hr8.sgs HS.out.1 (by omega) HS.out.2.2.2); clear hb8 hr8 hg8)
      | (go_at_call 35; refine (l_eqLayout_same _ _ n n n n L _ (S7.out.later (by repeat (first | (with_reducible exact Later.refl _) | (with_reducible exact Hid.out (by assumption)) | (with_reducible refine Later.alloc ?_ _) | (with_reducible refine Later.setCell ?_ (by simp; omega) _) | (with_reducible refine Later.setCell ?_ (by simp) _) | (with_reducible refine Later.drewN ?_ _) | (with_reducible refine Later.drew ?_) | (with_reducible refine Later.trans ?_ (Hid.out (by assumption)))))) (S8.out.later (by repeat (first | (with_reducible exact Later.refl _) | (with_reducible exact Hid.out (by assumption)) | (with_reducible refine Later.alloc ?_ _) | (with_reducible refine Later.setCell ?_ (by simp; omega) _) | (with_reducible refine Later.setCell ?_ (by simp) _) | (with_reducible refine Later.drewN ?_ _) | (with_reducible refine Later.drew ?_) | (with_reducible refine Later.trans ?_ (Hid.out (by assumption))))))).mono ?_; rintro e w9 ⟨rfl, hb9⟩; have H9 := Lib.hid hb9; clear hb9))
  all_goals
    go_wp2_with fail
    refine calls_into (fun W => Later w7 W) (by repeat (first | (with_reducible exact Later.refl _) | (with_reducible exact Hid.out (by assumption)) | (with_reducible refine Later.alloc ?_ _) | (with_reducible refine Later.setCell ?_ (by simp; omega) _) | (with_reducible refine Later.setCell ?_ (by simp) _) | (with_reducible refine Later.drewN ?_ _) | (with_reducible refine Later.drew ?_) | (with_reducible refine Later.trans ?_ (Hid.out (by assumption))))) ?_
    intro W hb
    have WW : Hid (Later w W) := Lib.hid (W7.out.trans hb)
    have FW := Lib.hid (F7.out.later hb)
    clear hb
    refine (l_toInt64S A m capF F _ (HF.out.later WW.out) hlm).mono ?_
    rintro e w10 ⟨g10, rfl, hg10, hr10, hs10, hb⟩
    have hb : Later W w10 := hb
    have W10 : Hid (Later w w10) := Lib.hid (WW.out.trans hb)
    have F10 := Lib.hid hs10
    have G10 := Lib.hid (FW.out.later hb)
    clear hb hg10 hr10 hs10
    go_wp2_with fail
    refine (l_eqIA _ _ m m m m F _ G10.out F10.out).mono ?_
    rintro e w11 ⟨rfl, hb⟩
    have W11 : Hid (Later w w11) := Lib.hid (W10.out.trans hb)
    clear hb
    go_wp2_with fail
    go_ret
    exact ⟨rfl, W11.out⟩

end Go.Proofs.Ytdhoiiejcmnmbaa
