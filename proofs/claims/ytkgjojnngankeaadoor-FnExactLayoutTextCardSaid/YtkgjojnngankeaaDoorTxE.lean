/- The walk of the exact law on texts of layouts. -/
import Derived.Test.YtkgjojnngankeaaDoorSgX
import Derived.Test.YtkgjojnngankeaaDoorTxL
import Derived.Test.YtkgjojnngankeaaDoorTxO
namespace Go.Proofs.YtkgjojnngankeaaDoor
open Go.RowKit Go.Shelf
set_option maxHeartbeats 4000000
set_option linter.unusedVariables false
set_option linter.unusedSimpArgs false
set_option maxRecDepth 100000 in
theorem walk_FnExactLayoutText (a : Option Addr) (n cap : Nat) (L : List Sg) (w : World) (hcap : n ≤ cap) (hs : Sgs w a n L) (ht : Tab w) :
    Calls Tryd.prog 3 #[.agg #[.slice a n cap]] w fun e w' => e = .returned (.bool true) ∧ Later w w' := by
  have HS := Lib.hid hs
  have HT := Lib.hid ht
  have hn := hs.2.1
  clear hs ht
  by_cases hbig : 1048576 < n
  · have hz := Lib.hid (szI_big hbig)
    go_enter Tryd.func3, Tryd.ntmps3
    go_wp2_with (go_at_call 5; refine (l_szLayout a n cap _ hn).mono ?_; rw [hz.out]; rintro e w1 ⟨rfl, hb⟩; have H := Lib.hid hb; clear hb)
    go_ret
    exact ⟨rfl, (by repeat (first | (with_reducible exact Later.refl _) | (with_reducible exact Hid.out (by assumption)) | (with_reducible refine Later.alloc ?_ _) | (with_reducible refine Later.setCell ?_ (by simp; omega) _) | (with_reducible refine Later.setCell ?_ (by simp) _) | (with_reducible refine Later.drewN ?_ _) | (with_reducible refine Later.drew ?_) | (with_reducible refine Later.trans ?_ (Hid.out (by assumption)))))⟩
  · have hle : n ≤ 1048576 := by omega
    have hz := Lib.hid (szI_ok hle)
    clear hbig
    go_enter Tryd.func3, Tryd.ntmps3
    go_wp2_with fail
    refine (l_szLayout a n cap _ hn).mono ?_
    rw [hz.out]
    rintro e w1 ⟨rfl, hb⟩
    have b1 : w.heap.size < w1.heap.size := by have := hb.size; simp at this; omega
    have c1 : w1.cell? ⟨w.heap.size, 0, none⟩ = some (.slice a n cap) := by rw [hb.cell (p := ⟨w.heap.size, 0, none⟩) (by simp)]; simp
    have W1 : Hid (Later w w1) := Lib.hid (((Later.refl _).alloc _).trans hb)
    clear hb
    go_wp2_with fail
    refine (l_toLayout a n cap L _ (HS.out.later W1.out) hle).mono ?_
    rintro e w2 ⟨g2, rfl, hg2, hr2, hb⟩
    have b2 : w.heap.size < w2.heap.size := Nat.lt_of_lt_of_le b1 hb.size
    have c2 : w2.cell? ⟨w.heap.size, 0, none⟩ = some (.slice a n cap) := by rw [hb.cell (p := ⟨w.heap.size, 0, none⟩) b1]; exact c1
    have W2 : Hid (Later w w2) := Lib.hid (W1.out.trans hb)
    have S2 := Lib.hid (hr2.sgs HS.out.1 (by omega) HS.out.2.2.2)
    clear hb hr2 hg2 c1
    go_wp2_with fail
    refine (s_LayoutText _ n n L _ S2.out).mono ?_
    rintro e w3 ⟨rfl, hb0⟩
    have hb : Later w2 w3 := hb0
    clear hb0
    have b3 : w.heap.size < w3.heap.size := Nat.lt_of_lt_of_le b2 hb.size
    have c3 : w3.cell? ⟨w.heap.size, 0, none⟩ = some (.slice a n cap) := by rw [hb.cell (p := ⟨w.heap.size, 0, none⟩) b2]; exact c2
    have W3 : Hid (Later w w3) := Lib.hid (W2.out.trans hb)
    clear hb c2
    go_wp2_with fail
    refine (l_toLayout a n cap L _ (HS.out.later W3.out) hle).mono ?_
    rintro e w4 ⟨g4, rfl, hg4, hr4, hb⟩
    have b4 : w.heap.size < w4.heap.size := Nat.lt_of_lt_of_le b3 hb.size
    have c4 : w4.cell? ⟨w.heap.size, 0, none⟩ = some (.slice a n cap) := by rw [hb.cell (p := ⟨w.heap.size, 0, none⟩) b3]; exact c3
    have W4 : Hid (Later w w4) := Lib.hid (W3.out.trans hb)
    have S4 := Lib.hid (hr4.sgs HS.out.1 (by omega) HS.out.2.2.2)
    clear hb hr4 hg4 c3
    go_wp2_with fail
    refine (i_LayoutText _ n n L _ (S4.out.later ((Later.refl _).alloc _)) (HT.out.later (W4.out.alloc _))).mono ?_
    rintro e w5 ⟨rfl, hb0⟩
    have hb : Later _ w5 := hb0
    clear hb0
    have b5 : w4.heap.size < w5.heap.size := by have := hb.size; simp at this; omega
    have c5 : w5.cell? ⟨w.heap.size, 0, none⟩ = some (.slice a n cap) := (hb.cell (p := ⟨w.heap.size, 0, none⟩) (by rw [World.size_alloc]; exact Nat.lt_succ_of_lt b4)).trans ((World.cell?_alloc_lt w4 _ ⟨w.heap.size, 0, none⟩ b4).trans c4)
    have d5 : w5.cell? ⟨w4.heap.size, 0, none⟩ = some (.slice (some ⟨g4, 0, none⟩) n n) := by rw [hb.cell (p := ⟨w4.heap.size, 0, none⟩) (by simp)]; simp
    have W5 : Hid (Later w w5) := Lib.hid ((W4.out.alloc _).trans hb)
    have S5 := Lib.hid (S4.out.later (((Later.refl _).alloc _).trans hb))
    have K5 := Lib.hid (show w5.cell? ⟨w.heap.size, 0, none⟩ = some (.slice a n cap) ∧ w.heap.size < w5.heap.size from ⟨c5, by omega⟩)
    have D5 := Lib.hid d5
    clear hb c4
    go_wp2_with fail
    go_region_held3 (fun w' => w'.cell? ⟨w.heap.size, 0, none⟩ = some (.slice a n cap) ∧ w'.cell? ⟨w4.heap.size, 0, none⟩ = some (.slice (some ⟨g4, 0, none⟩) n n))
      (exact two_cells K5.out.1 K5.out.2 D5.out b5 (by repeat (first | (with_reducible exact Later.refl _) | (with_reducible exact Hid.out (by assumption)) | (with_reducible refine Later.alloc ?_ _) | (with_reducible refine Later.setCell ?_ (by simp; omega) _) | (with_reducible refine Later.setCell ?_ (by simp) _) | (with_reducible refine Later.drewN ?_ _) | (with_reducible refine Later.drew ?_) | (with_reducible refine Later.trans ?_ (Hid.out (by assumption))))))
      (first
        | (go_at_call 7; refine (l_toLayout a n cap L _ (HS.out.later (by repeat (first | (with_reducible exact Later.refl _) | (with_reducible exact Hid.out (by assumption)) | (with_reducible refine Later.alloc ?_ _) | (with_reducible refine Later.setCell ?_ (by simp; omega) _) | (with_reducible refine Later.setCell ?_ (by simp) _) | (with_reducible refine Later.drewN ?_ _) | (with_reducible refine Later.drew ?_) | (with_reducible refine Later.trans ?_ (Hid.out (by assumption)))))) hle).mono ?_; rintro e w6 ⟨g6, rfl, hg6, hr6, hb6⟩; have H6 := Lib.hid hb6; have S6 := Lib.hid (hr6.sgs HS.out.1 (by omega) HS.out.2.2.2); clear hb6 hr6 hg6)
        | (go_at_call 9; refine (l_eqLayout_same _ _ n n n n L _ (S5.out.later (by repeat (first | (with_reducible exact Later.refl _) | (with_reducible exact Hid.out (by assumption)) | (with_reducible refine Later.alloc ?_ _) | (with_reducible refine Later.setCell ?_ (by simp; omega) _) | (with_reducible refine Later.setCell ?_ (by simp) _) | (with_reducible refine Later.drewN ?_ _) | (with_reducible refine Later.drew ?_) | (with_reducible refine Later.trans ?_ (Hid.out (by assumption)))))) (S6.out.later (by repeat (first | (with_reducible exact Later.refl _) | (with_reducible exact Hid.out (by assumption)) | (with_reducible refine Later.alloc ?_ _) | (with_reducible refine Later.setCell ?_ (by simp; omega) _) | (with_reducible refine Later.setCell ?_ (by simp) _) | (with_reducible refine Later.drewN ?_ _) | (with_reducible refine Later.drew ?_) | (with_reducible refine Later.trans ?_ (Hid.out (by assumption))))))).mono ?_; rintro e w7 ⟨rfl, hb7⟩; have H7 := Lib.hid hb7; clear hb7))
    all_goals
      go_wp2_with fail
      go_ret
      exact ⟨rfl, (by repeat (first | (with_reducible exact Later.refl _) | (with_reducible exact Hid.out (by assumption)) | (with_reducible refine Later.alloc ?_ _) | (with_reducible refine Later.setCell ?_ (by simp; omega) _) | (with_reducible refine Later.setCell ?_ (by simp) _) | (with_reducible refine Later.drewN ?_ _) | (with_reducible refine Later.drew ?_) | (with_reducible refine Later.trans ?_ (Hid.out (by assumption)))))⟩
end Go.Proofs.YtkgjojnngankeaaDoor
