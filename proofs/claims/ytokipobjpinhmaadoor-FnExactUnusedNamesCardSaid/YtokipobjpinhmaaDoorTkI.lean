/- Tokens, of the program: runes, words and gaps. -/
import Derived.Test.YtokipobjpinhmaaDoorTkN
import Derived.Test.YtokipobjpinhmaaDoorNum0
import Derived.Test.YtokipobjpinhmaaDoorLater
import Derived.WalkSmall
import Derived.Laws.RangeAny
import Derived.LoopTactic
import Derived.Outline
import Derived.IntWalk
namespace Go.Proofs.YtokipobjpinhmaaDoor
open Go.RowKit
set_option maxHeartbeats 2000000
set_option linter.unusedVariables false
set_option linter.unusedSimpArgs false
def letR (r : Int) : Bool := decide (97 ≤ r) && decide (r ≤ 122)
def innR (r : Int) : Bool := letR r || (decide (48 ≤ r) && decide (r ≤ 57)) || decide (r = 95)
theorem letR_b (b : UInt8) : letR (b.toNat : Int) = letB b := by
  unfold letR letB
  congr 1 <;> exact decide_eq_decide.2 (by omega)
theorem innR_b (b : UInt8) : innR (b.toNat : Int) = innB b := by
  unfold innR innB digB
  rw [letR_b]
  congr 1
  · congr 1
    congr 1 <;> exact decide_eq_decide.2 (by omega)
  · exact decide_eq_decide.2 (by omega)
theorem innR_hi (r : Int) (h : 128 ≤ r) : innR r = false := by
  simp [innR, letR]; omega
theorem i_isSmallLetter (r : Int) (w : World) (h0 : 0 ≤ r) (h1 : r ≤ 2147483647) : Calls Tryd.prog 130 #[.int .i32 r] w fun e w' => e = .returned (.bool (letR r)) ∧ w = w' := by
  go_enter Tryd.func130, Tryd.ntmps130
  go_wp2
  all_goals
    go_ret
    exact ⟨ret_b (by unfold letR; first | (simp_all; done) | (simp_all; omega)), rfl⟩
theorem i_isInWord (r : Int) (w : World) (h0 : 0 ≤ r) (h1 : r ≤ 2147483647) : Calls Tryd.prog 140 #[.int .i32 r] w fun e w' => e = .returned (.bool (innR r)) ∧ w = w' := by
  go_enter Tryd.func140, Tryd.ntmps140
  go_wp2_with (go_at_call 130; refine (i_isSmallLetter _ _ (by omega) (by omega)).mono ?_; rintro e w' ⟨rfl, rfl⟩)
  all_goals
    go_ret
    exact ⟨ret_b (by unfold innR; first | (simp_all; done) | (simp_all; rw [Bool.eq_iff_iff]; simp; omega) | (simp_all; rw [Bool.eq_iff_iff]; simp)), rfl⟩
/-- the rune that a range over a text meets at byte k -/
theorem rune_at (s : ByteArray) (k : Nat) (h : k < s.size) : (innR ((Utf8.decode s k).1 : Int) = innB s[k]) ∧ (innB s[k] = true → (Utf8.decode s k).2 = 1) ∧ (Utf8.decode s k).1 ≤ 2147483647 := by
  refine ⟨?_, ?_, decode_le s k⟩
  · by_cases ha : (s[k]'h).toNat < 128
    · rw [decode_ascii s k h ha]; exact innR_b _
    · have h1 := (decode_high s k h (by omega)).1
      rw [innR_hi _ (by omega)]
      cases hx : innB s[k] with
      | false => rfl
      | true => simp [innB, letB, digB] at hx; omega
  · intro hx
    have ha : (s[k]'h).toNat < 128 := by simp [innB, letB, digB] at hx; omega
    rw [decode_ascii s k h ha]
/-- a rune of more than one byte: all its bytes are 128 or more -/
theorem hi_width (s : ByteArray) (k : Nat) (h : k < s.size) (ha : 128 ≤ (s[k]'h).toNat) : k + (Utf8.decode s k).2 ≤ s.size ∧ ∀ j (hj : j < s.size), k ≤ j → j < k + (Utf8.decode s k).2 → 128 ≤ s[j].toNat := by
  have g : ∀ j (hj : k + j < s.size), s.get! (k + j) = s[k + j]'hj := fun j hj => by
    have := get_at s (k + j) hj
    simpa using this
  have key : ∀ n, (∀ i, 0 < i → i < n → (k + i < s.size ∧ (s.get! (k + i)).toNat / 64 = 2)) → 1 ≤ n → k + n ≤ s.size ∧ ∀ j (hj : j < s.size), k ≤ j → j < k + n → 128 ≤ s[j].toNat := by
    intro n hn h1
    refine ⟨?_, ?_⟩
    · rcases Nat.lt_or_ge 1 n with h2 | h2
      · have := (hn (n - 1) (by omega) (by omega)).1; omega
      · omega
    · intro j hj hk hjn
      by_cases e : j = k
      · subst e; exact ha
      · obtain ⟨i, rfl⟩ : ∃ i, j = k + i := ⟨j - k, by omega⟩
        have h3 := hn i (by omega) (by omega)
        rw [g i hj] at h3
        omega
  have one : ∀ i, 0 < i → i < 1 → (k + i < s.size ∧ (s.get! (k + i)).toNat / 64 = 2) := fun i h1 h2 => by omega
  have b0 : ¬ (s.get! (k + 0)).toNat < 128 := by rw [get_at s k h]; omega
  simp only [Utf8.decode, if_neg b0]
  split
  · rename_i h1
    simp at h1
    split
    · exact key 2 (fun i h2 h3 => by obtain rfl : i = 1 := by omega
                                     exact ⟨h1.2.1, h1.2.2⟩) (by omega)
    · exact key 1 one (Nat.le_refl _)
  · split
    · rename_i h1
      simp at h1
      split
      · refine key 3 (fun i h2 h3 => ?_) (by omega)
        rcases (show i = 1 ∨ i = 2 by omega) with rfl | rfl
        · exact ⟨h1.1.2.1, h1.1.2.2⟩
        · exact ⟨h1.2.1, h1.2.2⟩
      · exact key 1 one (Nat.le_refl _)
    · split
      · rename_i h1
        simp at h1
        split
        · refine key 4 (fun i h2 h3 => ?_) (by omega)
          rcases (show i = 1 ∨ i = 2 ∨ i = 3 by omega) with rfl | rfl | rfl
          · exact ⟨h1.1.1.2.1, h1.1.1.2.2⟩
          · exact ⟨h1.1.2.1, h1.1.2.2⟩
          · exact ⟨h1.2.1, h1.2.2⟩
        · exact key 1 one (Nat.le_refl _)
      · exact key 1 one (Nat.le_refl _)
theorem gpl_skip (s : ByteArray) (k n : Nat) (h1 : k + n ≤ s.size) (h2 : ∀ j (hj : j < s.size), k ≤ j → j < k + n → 128 ≤ s[j].toNat) : gpl true (s.data.toList.drop k) = n + gpl true (s.data.toList.drop (k + n)) := by
  induction n generalizing k with
  | zero => simp
  | succ n ih =>
    have hk : k < s.size := by omega
    have hd : s.data.toList.drop k = s[k] :: s.data.toList.drop (k + 1) := List.drop_eq_getElem_cons (l := s.data.toList) (i := k) hk
    have hb := h2 k hk (Nat.le_refl _) (by omega)
    rw [hd]
    simp only [gpl, or_true, if_true]
    rw [if_neg (by omega), if_neg (by omega), ih (k + 1) (by omega) (fun j hj h3 h4 => h2 j hj (by omega) (by omega)), show k + 1 + n = k + (n + 1) by omega]
    omega
theorem toList_at (s : ByteArray) (k : Nat) (h : k < s.size) : s.data.toList[k]'h = s[k] := rfl
theorem i_wordLength (s : ByteArray) (w : World) (hs : s.size ≤ 1000000000) : Calls Tryd.prog 131 #[.string s] w fun e w' => e = .returned (.int .i64 (wln s.data.toList : Nat)) ∧ Later w w' := by
  have hlen : s.data.toList.length = s.size := rfl
  go_enter Tryd.func131, Tryd.ntmps131
  go_wp2_with fail
  go_loopw [] (fun wr => ∃ k : Nat, wr = w.iter s k ∧ k ≤ s.size ∧ Hid (∀ j (hj : j < s.size), j < k → innB s[j] = true)) (fun wr => s.size - wr.iterPos w.heap.size)
  case atStart => exact ⟨0, rfl, by omega, Lib.hid (by intro j _ h; omega)⟩
  case round =>
    obtain ⟨k, rfl, hk, HI⟩ := hrel
    by_cases hp : k < s.size
    · obtain ⟨r1, r2, r3⟩ := rune_at s k hp
      have hnx : ∀ ty, (Instr.next (.pointer (some ⟨w.heap.size, 0, none⟩)) true ty).run Tryd.prog (w.iter s k) = _ := fun ty => run_next_any w s k ty hp
      obtain ⟨r, hr⟩ : ∃ r, r = Utf8.decode s k := ⟨_, rfl⟩
      rw [← hr] at r1 r2 r3 hnx
      cases hb : innB s[k]
      · have HB := Lib.hid hb
        rw [hb] at r1
        clear hr r2
        go_wp2_with (go_at_call 140; refine (i_isInWord _ _ (by omega) (by omega)).mono ?_; rintro e w' ⟨rfl, rfl⟩; rw [r1])
        go_ret
        have hw : wln s.data.toList = k := wln_at _ k hk (fun j hj => HI.out j (by omega) hj) (fun h => HB.out)
        rw [hw]
        exact ⟨rfl, (Later.refl _).alloc _⟩
      · have HB := Lib.hid hb
        rw [hb] at r1
        have r2 := r2 hb
        clear hr
        go_wp2_with (go_at_call 140; refine (i_isInWord _ _ (by omega) (by omega)).mono ?_; rintro e w' ⟨rfl, rfl⟩; rw [r1])
        go_roundw
        case rel =>
          refine ⟨k + 1, rfl, by omega, Lib.hid ?_⟩
          intro j hj hjk
          rcases Nat.lt_or_ge j k with h1 | h1
          · exact HI.out j hj h1
          · have : j = k := by omega
            subst this; exact HB.out
        case measure =>
          simp
          omega
    · have hnx : ∀ ty, (Instr.next (.pointer (some ⟨w.heap.size, 0, none⟩)) true ty).run Tryd.prog (w.iter s k) = _ := fun ty => run_next_end w s k ty hp
      obtain rfl : k = s.size := by omega
      go_wp2_with fail
      go_ret
      have hw : wln s.data.toList = s.size := wln_at _ s.size (Nat.le_refl _) (fun j hj => HI.out j hj hj) (fun h => absurd h (Nat.lt_irrefl _))
      rw [hw]
      exact ⟨rfl, (Later.refl _).alloc _⟩
end Go.Proofs.YtokipobjpinhmaaDoor
