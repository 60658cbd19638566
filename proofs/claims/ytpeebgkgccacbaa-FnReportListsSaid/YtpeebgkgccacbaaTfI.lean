/- Contracts of chapter 10: places and the blocks that they use, of the program. -/
import Derived.Test.YtpeebgkgccacbaaTfM
import Derived.Test.YtpeebgkgccacbaaIkM
import Derived.Test.YtpeebgkgccacbaaOwn
import Derived.Test.YtpeebgkgccacbaaNum0
import Derived.Test.YtpeebgkgccacbaaLater
import Derived.IntWalk
namespace Go.Proofs.Ytpeebgkgccacbaa
open Go.RowKit
set_option maxHeartbeats 4000000
set_option linter.unusedVariables false
set_option linter.unusedSimpArgs false
theorem i_placeIn (b p : Int) (w : World) (hb : -1000000000000000000 ≤ b) (hb2 : b ≤ 1000000000000000000) (hp : 0 ≤ p) (hp2 : p ≤ 2) : Calls Try.prog 42 #[.int .i64 b, .int .i64 p] w fun e w' => e = .returned (.int .i64 (3 * b + p)) ∧ w = w' := by
  go_enter Try.func42, Try.ntmps42
  go_wp2_with fail
  go_ret
  exact ⟨rfl, rfl⟩
theorem i_partsOfPlace (p : Int) (w : World) (h0 : 0 ≤ p) (h1 : p ≤ 9223372036854775807) : Calls Try.prog 44 #[.int .i64 p] w fun e w' => e = .returned (.tuple #[.int .i64 (p / 3), .int .i64 (p % 3)]) ∧ w = w' := by
  go_enter Try.func44, Try.ntmps44
  go_wp2_with fail
  refine bodyPost_ret (v := .tuple #[.int .i64 (p / 3), .int .i64 (p % 3)]) (by simp [results, Try.results44, go_sem, *]) rfl ⟨rfl, rfl⟩
theorem i_nextBlock (B b : Int) (w : World) (hB : 2 ≤ B) (hB2 : B ≤ 8) (h0 : 0 ≤ b) (h1 : b < B) : Calls Try.prog 45 #[.int .i64 B, .int .i64 b] w fun e w' => e = .returned (.int .i64 ((b + 1) % B)) ∧ w = w' := by
  go_enter Try.func45, Try.ntmps45
  go_wp2_with fail
  go_ret
  exact ⟨rfl, rfl⟩
theorem i_isNumberOfBlocks (B : Int) (w : World) : Calls Try.prog 41 #[.int .i64 B] w fun e w' => e = .returned (.bool (nbB B)) ∧ w = w' := by
  go_enter Try.func41, Try.ntmps41
  go_wp2_with fail
  all_goals
    go_ret
    exact ⟨ret_b (by unfold nbB; first | (simp_all; done) | (simp_all; omega)), rfl⟩
/-- a new list of the call's own that reads as l -/
def NewL (w : World) (l : List Int) (e : Ending) (w' : World) : Prop := ∃ v, e = .returned v ∧ Own w' w.heap.size v l ∧ Later w w'
/-- a literal list -/
theorem own_lit (w : World) (base : Nat) (l : List Int) (h : base ≤ w.heap.size) (hl : l.length ≤ 1000) (hr : ∀ x ∈ l, InR x) : Own (w.alloc (.cells (l.map (Value.int .i64)).toArray 2)) base (.slice (some ⟨w.heap.size, 0, none⟩) l.length l.length) l := by
  refine ⟨⟨by simp, .inr ⟨w.heap.size, l.length, (l.map (Value.int .i64)).toArray, rfl, h, heap_alloc_new w _, Nat.le_refl _, by unfold maxLen; omega, by simp, by simp [List.take_of_length_le]⟩⟩, hr⟩
theorem i_IsTraffic (B : Int) (a : Option Addr) (n cap : Nat) (l : List Int) (w : World) (hs : Sl w a n l) :
    Calls Try.prog 31 #[.agg #[.int .i64 B, .slice a n cap]] w fun e w' => e = .returned (.bool (tfB B l)) ∧ Later w w' := by
  have HS := Lib.hid hs
  have HL := Lib.hid hs.1
  have hn := hs.2.1
  clear hs
  by_cases h : (2 ≤ B ∧ B ≤ 8) ∧ 1 ≤ n ∧ n ≤ 4
  · obtain ⟨⟨h1, h2⟩, h3, h4⟩ := h
    have HF : Hid (tfB B l = plB B l) := Lib.hid (tfB_pl HL.out h1 h2 h3 h4)
    have HNB : Hid (nbB B = true) := Lib.hid (nbB_ok h1 h2)
    go_enter Try.func31, Try.ntmps31
    go_wp2_with (go_at_call 41; refine (i_isNumberOfBlocks _ _).mono ?_; rintro e w' ⟨rfl, rfl⟩; rw [HNB.out])
    go_loop [24] (fun i => ∃ k : Nat, k ≤ n ∧ i = .int .i64 k ∧ plB B (l.take k) = true) (fun i => n - (intOf i).toNat)
    case atStart => exact ⟨0, by omega, rfl, rfl⟩
    case round =>
      obtain ⟨k, hk, rfl, hp⟩ := hrel
      have HP := Lib.hid hp
      clear hp
      by_cases hlt : k < n
      · obtain ⟨b, off, rfl, hc0⟩ := HS.out.at k hlt
        have hc : (w.alloc (.cells #[.int .i64 B, .slice (some ⟨b, off, none⟩) n cap] 32)).cell? ⟨b, off + k, none⟩ = some (.int .i64 (gx l k)) := by rw [(show Later w (w.alloc _) from (Later.refl _).alloc _).cell (p := ⟨b, off + k, none⟩) (cell_lt hc0)]; exact hc0
        have HN : Hid (plB B (l.take (k + 1)) = (plB B (l.take k) && (decide (0 ≤ gx l k) && decide (gx l k < 3 * B)))) := Lib.hid (plB_take B l k (by rw [HL.out]; exact hlt))
        have HB : Hid (¬ (0 ≤ gx l k ∧ gx l k < 3 * B) → plB B l = false) := Lib.hid (plB_no k (by rw [HL.out]; exact hlt))
        clear hc0
        by_cases q1 : gx l k < 0
        · have HV := Lib.hid (HB.out (by omega))
          go_wp2_with fail
          go_ret
          exact ⟨ret_b (by rw [HF.out, HV.out]), (by repeat (first | (with_reducible exact Later.refl _) | (with_reducible exact Hid.out (by assumption)) | (with_reducible refine Later.alloc ?_ _) | (with_reducible refine Later.setCell ?_ (by simp; omega) _) | (with_reducible refine Later.setCell ?_ (by simp) _) | (with_reducible refine Later.drewN ?_ _) | (with_reducible refine Later.drew ?_) | (with_reducible refine Later.trans ?_ (Hid.out (by assumption)))))⟩
        · by_cases q2 : gx l k < 3 * B
          · go_wp2_with (go_at_call 42; refine (i_placeIn _ _ _ (by omega) (by omega) (by omega) (by omega)).mono ?_; rintro e w' ⟨rfl, rfl⟩)
            go_round
            case rel => exact ⟨k + 1, by omega, by go_num, by rw [HN.out, HP.out, decide_eq_true (by omega : 0 ≤ gx l k), decide_eq_true q2]; rfl⟩
            case measure => simp [intOf]; omega
          · have HV := Lib.hid (HB.out (by omega))
            go_wp2_with (go_at_call 42; refine (i_placeIn _ _ _ (by omega) (by omega) (by omega) (by omega)).mono ?_; rintro e w' ⟨rfl, rfl⟩)
            go_ret
            exact ⟨ret_b (by rw [HF.out, HV.out]), (by repeat (first | (with_reducible exact Later.refl _) | (with_reducible exact Hid.out (by assumption)) | (with_reducible refine Later.alloc ?_ _) | (with_reducible refine Later.setCell ?_ (by simp; omega) _) | (with_reducible refine Later.setCell ?_ (by simp) _) | (with_reducible refine Later.drewN ?_ _) | (with_reducible refine Later.drew ?_) | (with_reducible refine Later.trans ?_ (Hid.out (by assumption)))))⟩
      · obtain rfl : k = n := by omega
        have HT : Hid (plB B l = true) := Lib.hid (by have := HP.out; rw [List.take_of_length_le (by rw [HL.out]; exact Nat.le_refl _)] at this; exact this)
        go_wp2_with fail
        go_ret
        exact ⟨ret_b (by rw [HF.out, HT.out]), (by repeat (first | (with_reducible exact Later.refl _) | (with_reducible exact Hid.out (by assumption)) | (with_reducible refine Later.alloc ?_ _) | (with_reducible refine Later.setCell ?_ (by simp; omega) _) | (with_reducible refine Later.setCell ?_ (by simp) _) | (with_reducible refine Later.drewN ?_ _) | (with_reducible refine Later.drew ?_) | (with_reducible refine Later.trans ?_ (Hid.out (by assumption)))))⟩
  · have HF : Hid (tfB B l = false) := Lib.hid (tfB_no (by rw [HL.out]; exact fun ⟨a, b, c, d⟩ => h ⟨⟨a, b⟩, c, d⟩))
    have hcase : (∃ b, nbB B = b ∧ b = false) ∨ (∃ b, nbB B = b ∧ b = true ∧ n < 1) ∨ (∃ b, nbB B = b ∧ b = true ∧ 1 ≤ n ∧ 4 < n) := by
      by_cases g : 2 ≤ B ∧ B ≤ 8
      · have := nbB_ok g.1 g.2
        by_cases g2 : n < 1
        · exact .inr (.inl ⟨_, this, rfl, g2⟩)
        · exact .inr (.inr ⟨_, this, rfl, by omega, by omega⟩)
      · exact .inl ⟨_, nbB_no g, rfl⟩
    clear h
    rcases hcase with ⟨b, hb, rfl⟩ | ⟨b, hb, rfl, hq⟩ | ⟨b, hb, rfl, hq, hq4⟩
    all_goals
      have HNB := Lib.hid hb
      clear hb
      go_enter Try.func31, Try.ntmps31
      go_wp2_with (go_at_call 41; refine (i_isNumberOfBlocks _ _).mono ?_; rintro e w' ⟨rfl, rfl⟩; rw [HNB.out])
      go_ret
      exact ⟨ret_b (by rw [HF.out]), (by repeat (first | (with_reducible exact Later.refl _) | (with_reducible exact Hid.out (by assumption)) | (with_reducible refine Later.alloc ?_ _) | (with_reducible refine Later.setCell ?_ (by simp; omega) _) | (with_reducible refine Later.setCell ?_ (by simp) _) | (with_reducible refine Later.drewN ?_ _) | (with_reducible refine Later.drew ?_) | (with_reducible refine Later.trans ?_ (Hid.out (by assumption)))))⟩
end Go.Proofs.Ytpeebgkgccacbaa
