/- Keywords, of the program and of the model. -/
import Derived.Test.YtokipobjpinhmaaDoorTkN
import Derived.Test.YtokipobjpinhmaaDoorNum0
import Derived.Test.YtokipobjpinhmaaDoorLater
import Derived.WalkSmall
import Derived.WalkMore
import Derived.LoopTactic
import Derived.Outline
import Derived.IntWalk
import Derived.Lib.Strings
import Derived.Lib.Hide
import Derived.Deep.DeepMust
import Derived.Test.YtokipobjpinhmaaDoorGrown
namespace Go.Proofs.YtokipobjpinhmaaDoor
open Go.RowKit
set_option maxHeartbeats 2000000
set_option linter.unusedVariables false
set_option linter.unusedSimpArgs false
theorem eqs (s : ByteArray) (k : List UInt8) : (s.toList == (ByteArray.mk k.toArray).toList) = decide (s.data.toList = k) := by
  rw [Lib.toList_data, Lib.toList_data]
  by_cases h : s.data.toList = k
  · simp [h]
  · simp [h]
theorem i_isBlockKeyword (s : ByteArray) (w : World) : Calls Tryd.prog 132 #[.string s] w fun e w' => e = .returned (.bool (bkB12 s.data.toList)) ∧ w = w' := by
  obtain ⟨l, hl⟩ : ∃ l, l = s.data.toList := ⟨_, rfl⟩
  have E : ∀ k : List UInt8, (s.toList == (ByteArray.mk k.toArray).toList) = decide (l = k) := fun k => by rw [hl]; exact eqs s k
  have e1 := E [111, 110]
  have e2 := E [111, 102, 102]
  have e3 := E [114, 105, 115, 101]
  have e4 := E [108, 97, 116, 99, 104]
  have e5 := E [99, 111, 117, 110, 116]
  have e6 := E [112, 97, 105, 114]
  have B : Hid (bkB12 l = (decide (l = [111, 110]) || (decide (l = [111, 102, 102]) || (decide (l = [114, 105, 115, 101]) || (decide (l = [108, 97, 116, 99, 104]) || (decide (l = [99, 111, 117, 110, 116]) || decide (l = [112, 97, 105, 114]))))))) := Lib.hid (by simp [bkB12, bks, Bool.or_assoc])
  rw [← hl]
  clear E hl
  go_enter Tryd.func132, Tryd.ntmps132
  go_wp2_with fail
  all_goals
    go_ret
    exact ⟨ret_b (by rw [B.out]; simp_all), rfl⟩
theorem i_IsKeyword (s : ByteArray) (w : World) : Calls Tryd.prog 110 #[.string s] w fun e w' => e = .returned (.bool (kwB s.data.toList)) ∧ w = w' := by
  obtain ⟨l, hl⟩ : ∃ l, l = s.data.toList := ⟨_, rfl⟩
  have E : ∀ k : List UInt8, (s.toList == (ByteArray.mk k.toArray).toList) = decide (l = k) := fun k => by rw [hl]; exact eqs s k
  have e1 := E [112, 114, 111, 103, 114, 97, 109]
  have e2 := E [105, 110]
  have e3 := E [118, 97, 114]
  have e4 := E [111, 117, 116]
  have e5 := E [103, 117, 97, 114, 100]
  have e6 := E [101, 110, 100]
  have e7 := E [97, 110, 100]
  have e8 := E [111, 114]
  have e9 := E [110, 111, 116]
  have e10 := E [116, 114, 117, 101]
  have e11 := E [102, 97, 108, 115, 101]
  have B : Hid (kwB l = ((decide (l = [112, 114, 111, 103, 114, 97, 109]) || (decide (l = [105, 110]) || (decide (l = [118, 97, 114]) || (decide (l = [111, 117, 116]) || (decide (l = [103, 117, 97, 114, 100]) || (decide (l = [101, 110, 100]) || (decide (l = [97, 110, 100]) || (decide (l = [111, 114]) || (decide (l = [110, 111, 116]) || (decide (l = [116, 114, 117, 101]) || (decide (l = [102, 97, 108, 115, 101]) || bkB12 l))))))))))))) := Lib.hid (by simp [kwB, kws, bkB12, bks, Bool.or_assoc])
  have HL := Lib.hid hl
  rw [← hl]
  clear E hl
  go_enter Tryd.func110, Tryd.ntmps110
  go_wp2_with (go_at_call 132; refine (i_isBlockKeyword _ _).mono ?_; rintro e w' ⟨rfl, rfl⟩; rw [← HL.out])
  all_goals
    go_ret
    exact ⟨ret_b (by rw [B.out]; simp_all), rfl⟩
/-- the index of a keyword, or -1 -/
def kwI (l : List UInt8) : Int := if kwB l = true then (kws.idxOf l : Int) else -1
theorem kwI_ge (l : List UInt8) : decide (0 ≤ kwI l) = kwB l := by
  unfold kwI
  cases h : kwB l <;> simp
theorem kwI_11 (l : List UInt8) : decide (kwI l < 11) = !(bkB12 l) := by
  unfold kwI
  cases h : kwB l
  · have : bkB12 l = false := by
      cases h2 : bkB12 l with
      | false => rfl
      | true =>
        have h3 : l ∈ bks := by simpa [bkB12] using h2
        have h4 : l ∈ kws := by
          have : ∀ x ∈ bks, x ∈ kws := by decide
          exact this l h3
        have : kwB l = true := by simpa [kwB] using h4
        rw [h] at this; cases this
    simp [this]
  · have h4 : l ∈ kws := by simpa [kwB] using h
    have : ∀ x ∈ kws, decide ((kws.idxOf x : Int) < 11) = !(bkB12 x) := by decide
    rw [← this l h4]; simp
theorem idx_first : ∀ (L : List (List UInt8)) (l : List UInt8) (k : Nat), k < L.idxOf l → L[k]? ≠ some l
  | [], l, k, h => by simp at h
  | x :: r, l, k, h => by
    by_cases hx : x = l
    · subst hx; simp at h
    · rw [List.idxOf_cons] at h
      have hb : (x == l) = false := by simpa using hx
      rw [hb] at h
      cases k with
      | zero => simpa using hx
      | succ k =>
        rw [List.getElem?_cons_succ]
        exact idx_first r l k (by simpa using h)
theorem kws_first (l : List UInt8) (k : Nat) (hk : k < 17) (h : kws.getD k [] = l) (h0 : ∀ j, j < k → kws.getD j [] ≠ l) : kwI l = k := by
  have hm : l ∈ kws := by
    rw [← h, List.getD_eq_getElem?_getD, List.getElem?_eq_getElem (show k < kws.length from hk)]
    exact List.getElem_mem _
  have hkw : kwB l = true := by simpa [kwB] using hm
  unfold kwI
  rw [if_pos hkw]
  have hi := List.idxOf_lt_length_iff.2 hm
  have hg : kws[kws.idxOf l] = l := List.getElem_idxOf hi
  have h1 : ¬ kws.idxOf l < k := fun hc => h0 _ hc (by rw [List.getD_eq_getElem?_getD, List.getElem?_eq_getElem hi]; exact hg)
  have h2 : ¬ k < kws.idxOf l := fun hc => by
    have h3 := idx_first kws l k hc
    rw [List.getElem?_eq_getElem (show k < kws.length from hk)] at h3
    rw [List.getD_eq_getElem?_getD, List.getElem?_eq_getElem (show k < kws.length from hk)] at h
    exact h3 (congrArg some h)
  omega
theorem kws_none (l : List UInt8) (h0 : ∀ j, j < 17 → kws.getD j [] ≠ l) : kwI l = -1 := by
  unfold kwI
  rw [if_neg]
  intro h
  have hm : l ∈ kws := by simpa [kwB] using h
  obtain ⟨j, hj, e⟩ := List.mem_iff_getElem.1 hm
  exact h0 j hj (by rw [List.getD_eq_getElem?_getD, List.getElem?_eq_getElem hj]; exact e)
def kwV : Array Value := (kws.map fun l => Value.string ⟨l.toArray⟩).toArray
theorem s_Keywords (w : World) : Calls Tryd.prog 129 #[] w fun e w' => e = .returned (.slice (some ⟨w.heap.size, 0, none⟩) 17 17) ∧ w' = w.alloc (.cells kwV 9) := by
  go_enter Tryd.func129, Tryd.ntmps129
  go_wp2_with fail
  go_ret
  exact ⟨rfl, rfl⟩
theorem s_Keyword (s : ByteArray) (w : World) : Calls Tryd.prog 108 #[.string s] w fun e w' => e = .returned (.int .i64 (kwI s.data.toList)) ∧ Later w w' := by
  obtain ⟨l, hl⟩ : ∃ l, l = s.data.toList := ⟨_, rfl⟩
  have HL := Lib.hid hl
  rw [← hl]
  clear hl
  go_enter Tryd.func108, Tryd.ntmps108
  go_wp2_with (go_at_call 129; refine (s_Keywords _).mono ?_; rintro e w' ⟨rfl, rfl⟩)
  obtain ⟨b, hb⟩ : ∃ b, b = w.heap.size := ⟨_, rfl⟩
  have hC : ∀ k : Nat, k < 17 → (w.alloc (.cells kwV 9)).cell? ⟨w.heap.size, k, none⟩ = some (.string ⟨(kws.getD k []).toArray⟩) := by
    intro k hk
    rw [cell_of_row _ _ k _ _ (0, 0) (heap_alloc_new w _)]
    rcases (show k = 0 ∨ k = 1 ∨ k = 2 ∨ k = 3 ∨ k = 4 ∨ k = 5 ∨ k = 6 ∨ k = 7 ∨ k = 8 ∨ k = 9 ∨ k = 10 ∨ k = 11 ∨ k = 12 ∨ k = 13 ∨ k = 14 ∨ k = 15 ∨ k = 16 by omega) with h | h | h | h | h | h | h | h | h | h | h | h | h | h | h | h | h <;> subst h <;> rfl
  have HC := Lib.hid hC
  have HW : Hid (Later w (w.alloc (.cells kwV 9))) := Lib.hid ((Later.refl _).alloc _)
  clear hC
  generalize hW : w.alloc (.cells kwV 9) = W at HC HW ⊢
  clear hW
  rw [← hb] at HC ⊢
  clear hb
  go_wp2_with fail
  go_loopw [4] (fun i wr => wr = W ∧ ∃ k : Nat, i = .int .i64 k ∧ k ≤ 17 ∧ Hid (∀ j, j < k → kws.getD j [] ≠ l)) (fun i _ => 17 - (intOf i).toNat)
  case atStart => exact ⟨rfl, 0, rfl, by omega, Lib.hid (by intro j h; omega)⟩
  case round =>
    obtain ⟨rfl, k, rfl, hk, HI⟩ := hrel
    by_cases hp : k < 17
    · have hc := HC.out k hp
      obtain ⟨x, hx⟩ : ∃ x, x = kws.getD k [] := ⟨_, rfl⟩
      rw [← hx] at hc
      have HX := Lib.hid hx
      clear hx
      have E : (x == s.toList) = decide (x = l) := by
        rw [Lib.toList_data, ← HL.out]
        by_cases h : x = l <;> simp [h]
      by_cases hq : x = l
      · have HQ := Lib.hid hq
        rw [decide_eq_true hq] at E
        clear hq
        go_wp2_with fail
        go_ret
        rw [kws_first l k hp (by rw [← HX.out]; exact HQ.out) HI.out]
        exact ⟨rfl, HW.out⟩
      · have HQ := Lib.hid hq
        rw [decide_eq_false hq] at E
        clear hq
        go_wp2_with fail
        go_roundw
        case rel =>
          refine ⟨trivial, k + 1, by go_num, by omega, Lib.hid ?_⟩
          intro j hj
          rcases Nat.lt_or_ge j k with h1 | h1
          · exact HI.out j h1
          · obtain rfl : j = k := by omega
            rw [← HX.out]; exact HQ.out
        case measure => simp [intOf]; omega
    · obtain rfl : k = 17 := by omega
      go_wp2_with fail
      go_ret
      rw [kws_none l HI.out]
      exact ⟨rfl, HW.out⟩
end Go.Proofs.YtokipobjpinhmaaDoor
