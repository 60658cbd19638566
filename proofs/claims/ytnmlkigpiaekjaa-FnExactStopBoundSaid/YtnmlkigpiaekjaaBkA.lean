/- Contracts of chapter 4: which lists are blocks: the program's function. -/
import Derived.Test.YtnmlkigpiaekjaaBkM
import Derived.Test.YtnmlkigpiaekjaaSgI
import Derived.Test.YtnmlkigpiaekjaaSg1H
import Derived.Test.YtnmlkigpiaekjaaList
namespace Go.Proofs.Ytnmlkigpiaekjaa
open Go.RowKit
set_option maxHeartbeats 2000000
set_option linter.unusedVariables false
set_option linter.unusedSimpArgs false
theorem Sl.later {w w' : World} {a : Option Addr} {n : Nat} {l : List Int} (h : Sl w a n l) (hb : Later w w') : Sl w' a n l := sl_later h hb
/-- the segment ahead of block k + 1 -/
theorem fst_pred {L : List Sg} {F : List Int} {n k : Nat} (h : risB F (n : Int) = true) (hk : k + 1 < F.length) : ∃ q, gx F (k + 1) = ((q + 1 : Nat) : Int) ∧ q + 1 < n ∧ fstK F (k + 1) - 1 = q := by
  have a := ris_nat h (k + 1) hk
  have b := ris_succ h k hk
  exact ⟨fstK F (k + 1) - 1, by omega, by omega, rfl⟩
set_option maxRecDepth 100000 in
theorem i_AreBlocks (a : Option Addr) (n cap : Nat) (L : List Sg) (A : Option Addr) (m capF : Nat) (F : List Int) (w : World) (hs : Sgs w a n L) (hf : Sl w A m F) (hcF : m ≤ capF) :
    Calls Try.prog 105 #[.agg #[.slice a n cap], .slice A m capF] w fun e w' => e = .returned (.bool (bkB L F)) ∧ Later w w' := by
  have HS := Lib.hid hs; have HL := Lib.hid hs.1
  have HF := Lib.hid hf; have HM := Lib.hid hf.1
  have hn := hs.2.1; have hm := hf.2.1
  clear hs hf
  cases hv : layB L
  · have HT := Lib.hid (bkB_nl (F := F) hv)
    go_enter Try.func105, Try.ntmps105
    go_wp2_with (go_at_call 75; refine (i_IsLayout a n cap L _ (HS.out.later ((Later.refl _).alloc _))).mono ?_; rintro e w1 ⟨rfl, hb⟩; obtain ⟨H, hcc, hff, hzz⟩ := later_facts hb; clear hb; (try simp at hzz); (try simp only [World.heap_drewN, World.cell?_drewN, World.frozen?_drewN] at hcc hff))
    go_ret
    exact ⟨ret_b (by rw [HT.out]), (by repeat (first | (with_reducible exact Later.refl _) | (with_reducible exact Hid.out (by assumption)) | (with_reducible refine Later.alloc ?_ _) | (with_reducible refine Later.setCell ?_ (by simp; omega) _) | (with_reducible refine Later.setCell ?_ (by simp) _) | (with_reducible refine Later.drewN ?_ _) | (with_reducible refine Later.drew ?_) | (with_reducible refine Later.trans ?_ (Hid.out (by assumption)))))⟩
  · have HV := Lib.hid hv
    have HB : Hid (bkB L F = bkC L F) := Lib.hid (bkB_l hv)
    have h24 := ((layB_iff L).1 hv).2.1
    have h3 := ((layB_iff L).1 hv).1
    rw [HL.out] at h24 h3
    by_cases h28 : 2 ≤ m ∧ m ≤ 8
    · obtain ⟨h2, h8⟩ := h28
      obtain ⟨bF, oF, rfl, hc0⟩ := HF.out.at 0 (by omega)
      have hbF := cell_lt hc0
      rw [Nat.add_zero] at hc0
      by_cases h0 : gx F 0 = 0
      · have e0 : (gx F 0 != 0) = false := by simp [h0]
        have HG0 := Lib.hid h0
        clear h0
        cases hr : risB F (n : Int)
        · have HT : Hid (bkC L F = false) := Lib.hid (by rw [bkC_no]; rintro ⟨_, _, e, _⟩; rw [HL.out, hr] at e; cases e)
          go_enter Try.func105, Try.ntmps105
          go_wp2_with (first
            | (go_at_call 75; refine (i_IsLayout a n cap L _ (HS.out.later ((Later.refl _).alloc _))).mono ?_; rintro e w1 ⟨rfl, hb⟩; obtain ⟨H, hcc, hff, hzz⟩ := later_facts hb; clear hb; (try simp at hzz); (try simp only [World.heap_drewN, World.cell?_drewN, World.frozen?_drewN] at hcc hff))
            | (go_at_call 118; refine (i_IsRising _ m capF F n _ (HF.out.later (by repeat (first | (with_reducible exact Later.refl _) | (with_reducible exact Hid.out (by assumption)) | (with_reducible refine Later.alloc ?_ _) | (with_reducible refine Later.setCell ?_ (by simp; omega) _) | (with_reducible refine Later.setCell ?_ (by simp) _) | (with_reducible refine Later.drewN ?_ _) | (with_reducible refine Later.drew ?_) | (with_reducible refine Later.trans ?_ (Hid.out (by assumption))))))).mono ?_; rw [hr]; rintro e w' ⟨rfl, rfl⟩))
          go_ret
          exact ⟨ret_b (by rw [HB.out, HT.out]), (by repeat (first | (with_reducible exact Later.refl _) | (with_reducible exact Hid.out (by assumption)) | (with_reducible refine Later.alloc ?_ _) | (with_reducible refine Later.setCell ?_ (by simp; omega) _) | (with_reducible refine Later.setCell ?_ (by simp) _) | (with_reducible refine Later.drewN ?_ _) | (with_reducible refine Later.drew ?_) | (with_reducible refine Later.trans ?_ (Hid.out (by assumption)))))⟩
        · have HR := Lib.hid hr
          have hcp : 1 ≤ capF - 1 := by omega
          go_enter Try.func105, Try.ntmps105
          go_wp2_with (first
            | (go_at_call 75; refine (i_IsLayout a n cap L _ (HS.out.later ((Later.refl _).alloc _))).mono ?_; rintro e w1 ⟨rfl, hb⟩; obtain ⟨H, hcc, hff, hzz⟩ := later_facts hb; clear hb; (try simp at hzz); (try simp only [World.heap_drewN, World.cell?_drewN, World.frozen?_drewN] at hcc hff))
            | (go_at_call 118; refine (i_IsRising _ m capF F n _ (HF.out.later (by repeat (first | (with_reducible exact Later.refl _) | (with_reducible exact Hid.out (by assumption)) | (with_reducible refine Later.alloc ?_ _) | (with_reducible refine Later.setCell ?_ (by simp; omega) _) | (with_reducible refine Later.setCell ?_ (by simp) _) | (with_reducible refine Later.drewN ?_ _) | (with_reducible refine Later.drew ?_) | (with_reducible refine Later.trans ?_ (Hid.out (by assumption))))))).mono ?_; rw [hr]; rintro e w' ⟨rfl, rfl⟩))
          clear hv hr e0 hc0
          go_loopw [35] (fun i wr => ∃ k : Nat, k ≤ m - 1 ∧ i = .int .i64 k ∧ okH L F (k + 1) = true ∧ Later w1 wr) (fun i _ => m - 1 - (intOf i).toNat)
          case atStart => exact ⟨0, by omega, rfl, okH_1 L F, Later.refl _⟩
          case round =>
            obtain ⟨k, hk, rfl, hok, hlw⟩ := hrel
            have HO := Lib.hid hok; have HW1 := Lib.hid hlw; have HW : Hid (Later w wr) := Lib.hid ((Later.trans ((Later.refl w).alloc _) H.out).trans hlw)
            have cb : wr.cell? ⟨w.heap.size, 0, none⟩ = some (.slice (a) n cap) := by rw [hlw.cell (p := ⟨w.heap.size, 0, none⟩) (by show w.heap.size < w1.heap.size; omega), hcc _ _ (by simp)]; simp
            have HZ : w.heap.size < wr.heap.size := Nat.lt_of_lt_of_le (by omega) hlw.size
            clear hok hlw
            by_cases hlt : k < m - 1
            · obtain ⟨q, hq, hqn, hqf⟩ := fst_pred (L := L) HR.out (k := k) (by rw [HM.out]; omega)
              obtain ⟨b', o', hbb, hcF'⟩ := (HF.out.later HW.out).at (k + 1) (by omega)
              simp only [Option.some.injEq, Addr.mk.injEq, and_true] at hbb
              obtain ⟨rfl, rfl⟩ := hbb
              rw [hq] at hcF'
              obtain ⟨b2, o2, rfl, hb2, hc⟩ := (HS.out.later HW.out).at q (by omega)
              obtain ⟨c0, c1, c2, c3, c4, c5, c6⟩ := hc
              have hcF2 : wr.cell? ⟨bF, oF + 1 + k, none⟩ = some (.int .i64 ((q + 1 : Nat) : Int)) := by rw [show oF + 1 + k = oF + (k + 1) by omega]; exact hcF'
              have HOK : Hid (okH L F (k + 1 + 1) = hldB (sx L q)) := Lib.hid (by rw [okH_succ, HO.out, hqf]; simp)
              clear hcc hff hcF' hq hqf
              cases hh : hldB (sx L q)
              · have HN : Hid (bkC L F = false) := Lib.hid (by
                  rw [bkC_no]; rintro ⟨_, _, _, _, e⟩
                  have := okH_at L F F.length (k + 1) e (by rw [HM.out]; omega) (by omega)
                  have h2 := HOK.out
                  rw [okH_succ, HO.out, this] at h2
                  rw [hh] at h2; simp at h2)
                clear HOK
                go_wp2_with (go_at_call 119; refine (i_Holds (sx L q) _).mono ?_; rintro e w1 ⟨rfl, hb⟩; obtain ⟨H, hcc, hff, hzz⟩ := later_facts hb; clear hb; (try simp at hzz); (try simp only [World.heap_drewN, World.cell?_drewN, World.frozen?_drewN] at hcc hff))
                go_ret
                exact ⟨ret_b (by rw [HB.out, HN.out]), (by repeat (first | (with_reducible exact Later.refl _) | (with_reducible exact Hid.out (by assumption)) | (with_reducible refine Later.alloc ?_ _) | (with_reducible refine Later.setCell ?_ (by simp; omega) _) | (with_reducible refine Later.setCell ?_ (by simp) _) | (with_reducible refine Later.drewN ?_ _) | (with_reducible refine Later.drew ?_) | (with_reducible refine Later.trans ?_ (Hid.out (by assumption)))))⟩
              · have HN : Hid (okH L F (k + 1 + 1) = true) := Lib.hid (by rw [HOK.out, hh])
                clear HOK
                go_wp2_with (go_at_call 119; refine (i_Holds (sx L q) _).mono ?_; rintro e w1 ⟨rfl, hb⟩; obtain ⟨H, hcc, hff, hzz⟩ := later_facts hb; clear hb; (try simp at hzz); (try simp only [World.heap_drewN, World.cell?_drewN, World.frozen?_drewN] at hcc hff))
                go_roundw
                case rel => exact ⟨k + 1, by omega, by go_num, HN.out, (by repeat (first | (with_reducible exact Later.refl _) | (with_reducible exact Hid.out (by assumption)) | (with_reducible refine Later.alloc ?_ _) | (with_reducible refine Later.setCell ?_ (by simp; omega) _) | (with_reducible refine Later.setCell ?_ (by simp) _) | (with_reducible refine Later.drewN ?_ _) | (with_reducible refine Later.drew ?_) | (with_reducible refine Later.trans ?_ (Hid.out (by assumption)))))⟩
                case measure => simp [intOf]; omega
            · obtain rfl : k = m - 1 := by omega
              have HN : Hid (bkC L F = true) := Lib.hid (by
                rw [bkC_iff, HM.out, HL.out]
                exact ⟨h2, h8, HR.out, HG0.out, by have := HO.out; rwa [show m - 1 + 1 = m by omega] at this⟩)
              clear hcc hff
              go_wp2
              go_ret
              exact ⟨ret_b (by rw [HB.out, HN.out]), (by repeat (first | (with_reducible exact Later.refl _) | (with_reducible exact Hid.out (by assumption)) | (with_reducible refine Later.alloc ?_ _) | (with_reducible refine Later.setCell ?_ (by simp; omega) _) | (with_reducible refine Later.setCell ?_ (by simp) _) | (with_reducible refine Later.drewN ?_ _) | (with_reducible refine Later.drew ?_) | (with_reducible refine Later.trans ?_ (Hid.out (by assumption)))))⟩
      · have e0 : (gx F 0 != 0) = true := by simpa using h0
        have HT : Hid (bkC L F = false) := Lib.hid (by rw [bkC_no]; rintro ⟨_, _, _, e, _⟩; exact h0 e)
        clear h0
        go_enter Try.func105, Try.ntmps105
        go_wp2_with (go_at_call 75; refine (i_IsLayout a n cap L _ (HS.out.later ((Later.refl _).alloc _))).mono ?_; rintro e w1 ⟨rfl, hb⟩; obtain ⟨H, hcc, hff, hzz⟩ := later_facts hb; clear hb; (try simp at hzz); (try simp only [World.heap_drewN, World.cell?_drewN, World.frozen?_drewN] at hcc hff))
        go_ret
        exact ⟨ret_b (by rw [HB.out, HT.out]), (by repeat (first | (with_reducible exact Later.refl _) | (with_reducible exact Hid.out (by assumption)) | (with_reducible refine Later.alloc ?_ _) | (with_reducible refine Later.setCell ?_ (by simp; omega) _) | (with_reducible refine Later.setCell ?_ (by simp) _) | (with_reducible refine Later.drewN ?_ _) | (with_reducible refine Later.drew ?_) | (with_reducible refine Later.trans ?_ (Hid.out (by assumption)))))⟩
    · have HT : Hid (bkC L F = false) := Lib.hid (by rw [bkC_no]; rintro ⟨e1, e2, _⟩; rw [HM.out] at e1 e2; exact h28 ⟨e1, e2⟩)
      have h28' : m < 2 ∨ 8 < m := by omega
      clear h28
      rcases h28' with hh | hh
      all_goals
        go_enter Try.func105, Try.ntmps105
        go_wp2_with (go_at_call 75; refine (i_IsLayout a n cap L _ (HS.out.later ((Later.refl _).alloc _))).mono ?_; rintro e w1 ⟨rfl, hb⟩; obtain ⟨H, hcc, hff, hzz⟩ := later_facts hb; clear hb; (try simp at hzz); (try simp only [World.heap_drewN, World.cell?_drewN, World.frozen?_drewN] at hcc hff))
        go_ret
        exact ⟨ret_b (by rw [HB.out, HT.out]), (by repeat (first | (with_reducible exact Later.refl _) | (with_reducible exact Hid.out (by assumption)) | (with_reducible refine Later.alloc ?_ _) | (with_reducible refine Later.setCell ?_ (by simp; omega) _) | (with_reducible refine Later.setCell ?_ (by simp) _) | (with_reducible refine Later.drewN ?_ _) | (with_reducible refine Later.drew ?_) | (with_reducible refine Later.trans ?_ (Hid.out (by assumption)))))⟩
end Go.Proofs.Ytnmlkigpiaekjaa
