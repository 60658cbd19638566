/- The walk of the exact law on reading a layout's text. -/
import Derived.Test.YtkhhoajoionlfaaDoorRdO
import Derived.Test.YtkhhoajoionlfaaDoorMarkH
namespace Go.Proofs.YtkhhoajoionlfaaDoor
open Go.RowKit Go.Shelf
set_option maxHeartbeats 4000000
set_option linter.unusedVariables false
set_option linter.unusedSimpArgs false
theorem lay_all {L : List Sg} (h : layB L = true) : ∀ x ∈ L, sgB x = true := by
  have ho := ((layB_iff L).1 h).2.2.1
  intro x hx
  unfold okB at ho
  rw [List.take_length, List.all_eq_true] at ho
  exact ho x hx
theorem lay_one {L M : List Sg} {l : List UInt8} (hL : layB L = true) (hM : layB M = true) (h1 : l = linTx L) (h2 : l = linTx M) : M = L := lin_inj M L (lay_all hM) (lay_all hL) (h2.symm.trans h1)
/-- a layout that was read: its row -/
def LRow (w : World) (base : Nat) (v : Value) (L : List Sg) : Prop := ∃ g cap, v = .slice (some ⟨g, 0, none⟩) L.length cap ∧ base ≤ g ∧ SgRow w g L.length (flt L)
theorem OwnS.lrow {w : World} {base : Nat} {v : Value} {L : List Sg} (h : OwnS w base v L) (hL : layB L = true) : LRow w base v L := by
  rcases h.row with ⟨_, rfl⟩ | ⟨g, cap, e, _, _, hb, hr⟩
  · have := ((layB_iff _).1 hL).1; simp at this
  · exact ⟨g, cap, e, hb, hr⟩
theorem lay_in {L : List Sg} (hL : layB L = true) : ∀ x ∈ L, x.In := by
  intro x hx
  have := (sgB_iff x).1 (lay_all hL x hx)
  intro j
  unfold Sg.at
  split <;> (try omega)
  all_goals
    by_cases h0 : x.k = 0
    · have := this.2.2.2.2.1 h0; omega
    · have := this.2.2.2.2.2 h0; omega
theorem i_ReadYes {s : ByteArray} {L : List Sg} (hL : layB L = true) (hl : s.data.toList = linTx L) (w : World) (hs : s.size ≤ 1048576) (ht : Tab w) (hm : MaxL w) (he : Errs w) :
    Calls Tryd.prog 5 #[.string s] w fun e w' => ∃ g cap, e = .returned (.tuple #[.agg #[.slice (some ⟨g, 0, none⟩) L.length cap], .bool true]) ∧ w.heap.size ≤ g ∧ SgRow w' g L.length (flt L) ∧ Later w w' := by
  refine (i_ReadLayout s w hs ht hm he).mono ?_
  rintro e w' ⟨hb, h⟩
  rcases h with ⟨M, v, hM, hl2, rfl, ho⟩ | ⟨hno, _⟩
  · obtain rfl := lay_one hL hM hl hl2
    obtain ⟨g, cap, rfl, hg, hr⟩ := ho.lrow hM
    exact ⟨g, cap, rfl, hg, hr, hb⟩
  · exact absurd hl (hno L hL)
theorem i_ReadNo {s : ByteArray} (hno : ∀ L, layB L = true → s.data.toList ≠ linTx L) (w : World) (hs : s.size ≤ 1048576) (ht : Tab w) (hm : MaxL w) (he : Errs w) :
    Calls Tryd.prog 5 #[.string s] w fun e w' => e = .returned (.tuple #[.agg #[.slice none 0 0], .bool false]) ∧ Later w w' := by
  refine (i_ReadLayout s w hs ht hm he).mono ?_
  rintro e w' ⟨hb, h⟩
  rcases h with ⟨M, v, hM, hl2, rfl, ho⟩ | ⟨_, rfl⟩
  · exact absurd hl2 (hno M hM)
  · exact ⟨rfl, hb⟩
/-- a cell behind a later world -/
theorem cell_up {w w' : World} {b : Nat} {v : Value} (h : w.cell? ⟨b, 0, none⟩ = some v ∧ b < w.heap.size) (k : Later w w') : w'.cell? ⟨b, 0, none⟩ = some v ∧ b < w'.heap.size :=
  ⟨by rw [k.cell (p := ⟨b, 0, none⟩) h.2]; exact h.1, Nat.lt_of_lt_of_le h.2 k.size⟩
theorem cell_grown {w w' : World} {b : Nat} {v : Value} {row : Option Nat} (h : w.cell? ⟨b, 0, none⟩ = some v ∧ b < w.heap.size) (k : w.grownBy w' row) (hb : some b ≠ row) : w'.cell? ⟨b, 0, none⟩ = some v ∧ b < w'.heap.size :=
  ⟨k.cell h.1 hb, Nat.lt_of_lt_of_le h.2 k.size⟩
theorem SgRow.grownR {w w' : World} {g n : Nat} {f : Nat → Int} {row : Option Nat} (h : SgRow w g n f) (k : w.grownBy w' row) (hb : some g ≠ row) : SgRow w' g n f := by
  have hb2 : w'.heap[g]? = w.heap[g]? := k.block g h.1 hb
  exact ⟨Nat.lt_of_lt_of_le h.1 k.size, fun j hj => ⟨k.cell (h.2 j hj).1 hb, by rw [World.frozen?_of_block (a := ⟨g, j, none⟩) hb2]; exact (h.2 j hj).2⟩⟩
set_option maxRecDepth 100000 in
theorem walk_FnExactReadLayout (s : ByteArray) (hml : s.size ≤ maxLen) (w : World) (hx : Tab w ∧ MaxL w ∧ Errs w) :
    Calls Tryd.prog 3 #[.string s] w fun e w' => e = .returned (.bool true) ∧ Below w.heap.size w w' := by
  clear hml
  have HT := Lib.hid hx.1; have HM := Lib.hid hx.2.1; have HE := Lib.hid hx.2.2
  clear hx
  by_cases hs : 1048576 < s.size
  · have e1 : decide ((1048576 : Int) < s.size) = true := by simp; omega
    go_enter Tryd.func3, Tryd.ntmps3
    go_wp2_with fail
    go_ret
    exact ⟨rfl, by first | exact Later.refl _ | exact (Later.refl _).drew⟩
  · have hs2 : s.size ≤ 1048576 := by omega
    have e1 : decide ((1048576 : Int) < s.size) = false := by simp; omega
    clear hs
    by_cases hyes : ∃ L, layB L = true ∧ s.data.toList = linTx L
    · obtain ⟨L, hL, hl⟩ := hyes
      have HL := Lib.hid hL; have HLI := Lib.hid hl
      have hn24 : L.length ≤ 24 := ((layB_iff L).1 hL).2.1
      obtain ⟨n, hn⟩ : ∃ n, n = L.length := ⟨_, rfl⟩
      rw [← hn] at hn24
      have HN := Lib.hid hn
      have HIN := Lib.hid (lay_in hL)
      clear hL hl hn
      go_enter Tryd.func3, Tryd.ntmps3
      go_wp2_with fail
      refine (s_ReadLayout s _ hs2).mono ?_
      rintro e w1 ⟨hb, h⟩
      have h1 : ∃ g cap, e = .returned (.tuple #[.agg #[.slice (some ⟨g, 0, none⟩) n cap], .bool true]) ∧ w.heap.size ≤ g ∧ SgRow w1 g n (flt L) := by
        rcases h with ⟨M, v, hM, hl2, rfl, ho⟩ | ⟨hno, _⟩
        · obtain rfl := lay_one HL.out hM HLI.out hl2
          obtain ⟨g, cap, rfl, hg, hr⟩ := ho.lrow hM
          rw [← HN.out] at hr ⊢
          exact ⟨g, cap, rfl, hg, hr⟩
        · exact absurd HLI.out (hno L HL.out)
      obtain ⟨g1, cap1, rfl, hg1, hr1⟩ := h1
      have B1 := Lib.hid hb
      have R1 := Lib.hid hr1
      have z1 : g1 < w1.heap.size := hr1.lt
      clear h hb hr1
      go_wp2_with fail
      refine (i_ReadYes HL.out HLI.out _ hs2 (HT.out.later (Later.alloc B1.out _)) (HM.out.later (Later.alloc B1.out _)) (HE.out.lat (Later.alloc B1.out _))).mono ?_
      rw [← HN.out]
      rintro e w2 ⟨g2, cap2, rfl, hg2, hr2, hb⟩
      have hb' := Later.trans ((Later.refl w1).alloc _) hb
      have B2 := Lib.hid (Later.trans B1.out hb')
      have R2 := Lib.hid hr2
      have Q2 := Lib.hid (R1.out.later hb')
      have C2 := Lib.hid (cell_up (b := w1.heap.size) (v := .slice (some ⟨g1, 0, none⟩) n cap1) ⟨by simp, by simp⟩ hb)
      have z2 : g2 < w2.heap.size := hr2.lt
      have z2a : w1.heap.size < w2.heap.size := C2.out.2
      have z2b : w1.heap.size < g2 := by rw [World.size_alloc] at hg2; omega
      clear hb hb' hr2 hg2
      have c2 := C2.out.1
      go_wp2_with fail
      have C5 := Lib.hid (show (w2.alloc (.cells #[.slice (some ⟨g2, 0, none⟩) n cap2] 24)).cell? ⟨w2.heap.size, 0, none⟩ = some (.slice (some ⟨g2, 0, none⟩) n cap2) ∧ w2.heap.size < (w2.alloc (.cells #[.slice (some ⟨g2, 0, none⟩) n cap2] 24)).heap.size from ⟨by simp, by simp⟩)
      refine (l_eqLayout_same _ _ n cap2 n cap1 L _ ((R2.out.sgs HN.out.symm (by omega) HIN.out).later ((Later.refl _).alloc _)) ((Q2.out.sgs HN.out.symm (by omega) HIN.out).later ((Later.refl _).alloc _))).mono ?_
      rintro e w3 ⟨rfl, hb⟩
      have hb' := Later.trans ((Later.refl w2).alloc _) hb
      have B3 := Lib.hid (Later.trans B2.out hb')
      have R3 := Lib.hid (R2.out.later hb')
      have Q3 := Lib.hid (Q2.out.later hb')
      have C3 := Lib.hid (cell_up C2.out hb')
      have D3 := Lib.hid (cell_up C5.out hb)
      have c3 := C3.out.1; have d3 := D3.out.1
      have z3 := D3.out.2
      have z3a := C3.out.2
      clear hb hb' c2
      go_wp2_with fail
      refine (l_markLayout g2 n cap2 (flt L) _ R3.out (by omega)).mono ?_
      rintro e w4 ⟨rfl, hr4, hg4⟩
      have R4 := Lib.hid hr4.marked
      have Q4 := Lib.hid (Q3.out.grownR hg4 (by intro e; injection e with e; omega))
      have C4 := Lib.hid (cell_grown C3.out hg4 (by intro e; injection e with e; omega))
      have D4 := Lib.hid (cell_grown D3.out hg4 (by intro e; injection e with e; omega))
      have B4 : Hid (Later w w4) := Lib.hid (Below.grown B3.out hg4 B3.out.size (fun j hj => by have := B1.out.size; injection hj with e; omega))
      have c4 := C4.out.1; have d4 := D4.out.1
      have z4 := D4.out.2
      have z4a := C4.out.2
      clear hr4 hg4 c3 d3
      go_wp2_with fail
      refine (l_heldLayout g2 n cap2 _ R4.out (by omega)).mono ?_
      rintro e w5 ⟨rfl, hb⟩
      have B5 := Lib.hid (Later.trans B4.out hb)
      have R5 := Lib.hid (R4.out.later hb)
      have Q5 := Lib.hid (Q4.out.later hb)
      have C5 := Lib.hid (cell_up C4.out hb)
      have D5 := Lib.hid (cell_up D4.out hb)
      have c5 := C5.out.1; have d5 := D5.out.1
      have z5 := D5.out.2
      have z5a := C5.out.2
      clear hb c4 d4
      go_wp2_with fail
      refine (i_ReadYes HL.out HLI.out _ hs2 (HT.out.later B5.out) (HM.out.later B5.out) (HE.out.lat B5.out)).mono ?_
      rw [← HN.out]
      rintro e w6 ⟨g6, cap6, rfl, hg6, hr6, hb⟩
      have B6 := Lib.hid (Later.trans B5.out hb)
      have R6 := Lib.hid (R5.out.later hb)
      have Q6 := Lib.hid (Q5.out.later hb)
      have C6 := Lib.hid (cell_up C5.out hb)
      have D6 := Lib.hid (cell_up D5.out hb)
      have P6 := Lib.hid hr6
      have c6 := C6.out.1; have d6 := D6.out.1
      have z6 := D6.out.2
      have z6a := C6.out.2
      clear hb c5 d5 hr6 hg6
      go_wp2_with fail
      refine (l_eqLayout_same _ _ n cap6 n cap1 L _ ((P6.out.sgs HN.out.symm (by omega) HIN.out).later ((Later.refl _).alloc _)) ((Q6.out.sgs HN.out.symm (by omega) HIN.out).later ((Later.refl _).alloc _))).mono ?_
      rintro e w7 ⟨rfl, hb⟩
      have hb' := Later.trans ((Later.refl w6).alloc _) hb
      have B7 := Lib.hid (Later.trans B6.out hb')
      have R7 := Lib.hid (R6.out.later hb')
      have D7 := Lib.hid (cell_up D6.out hb')
      have d7 := D7.out.1
      have z7 := D7.out.2
      clear hb hb' c6 d6
      go_wp2_with fail
      refine (l_heldLayout g2 n cap2 _ R7.out (by omega)).mono ?_
      rintro e w8 ⟨rfl, hb⟩
      have B8 := Lib.hid (Later.trans B7.out hb)
      clear hb d7
      go_wp2_with fail
      go_ret
      exact ⟨rfl, by first | exact B8.out | exact B8.out.drew⟩
    · have HNO : Hid (∀ L, layB L = true → s.data.toList ≠ linTx L) := Lib.hid (fun L hL h => hyes ⟨L, hL, h⟩)
      clear hyes
      go_enter Tryd.func3, Tryd.ntmps3
      go_wp2_with fail
      refine (s_ReadLayout s _ hs2).mono ?_
      rintro e w1 ⟨hb, h⟩
      have h1 : e = .returned (.tuple #[.agg #[.slice none 0 0], .bool false]) := by
        rcases h with ⟨M, v, hM, hl2, rfl, ho⟩ | ⟨_, rfl⟩
        · exact absurd hl2 (HNO.out M hM)
        · rfl
      subst h1
      have B1 := Lib.hid hb
      clear h hb
      go_wp2_with fail
      refine (i_ReadNo HNO.out _ hs2 (HT.out.later (Later.alloc B1.out _)) (HM.out.later (Later.alloc B1.out _)) (HE.out.lat (Later.alloc B1.out _))).mono ?_
      rintro e w2 ⟨rfl, hb⟩
      have B2 := Lib.hid (Later.trans (Later.alloc B1.out _) hb)
      have C2 := Lib.hid (cell_up (b := w1.heap.size) (v := .slice none 0 0) ⟨by simp, by simp⟩ hb)
      have c2 := C2.out.1
      have z2 := C2.out.2
      clear hb
      have C5 := Lib.hid (show (w2.alloc (.cells #[.slice none 0 0] 24)).cell? ⟨w2.heap.size, 0, none⟩ = some (.slice none 0 0) ∧ w2.heap.size < (w2.alloc (.cells #[.slice none 0 0] 24)).heap.size from ⟨by simp, by simp⟩)
      go_wp2_with fail
      refine (l_eqLayout_same _ _ 0 0 0 0 [] _ (Sgs.nil _ _) (Sgs.nil _ _)).mono ?_
      rintro e w3 ⟨rfl, hb⟩
      have hb' := Later.trans ((Later.refl w2).alloc _) hb
      have B3 := Lib.hid (Later.trans B2.out hb')
      have C3 := Lib.hid (cell_up C2.out hb')
      have D3 := Lib.hid (cell_up C5.out hb)
      have c3 := C3.out.1; have d3 := D3.out.1
      have z3 := D3.out.2
      have z3a := C3.out.2
      clear hb hb' c2
      go_wp2_with fail
      refine (l_markLayout0 _).mono ?_
      rintro e w4 ⟨rfl, hb⟩
      have B4 := Lib.hid (Later.trans B3.out hb)
      have C4 := Lib.hid (cell_up C3.out hb)
      have D4 := Lib.hid (cell_up D3.out hb)
      have c4 := C4.out.1; have d4 := D4.out.1
      have z4 := D4.out.2
      have z4a := C4.out.2
      clear hb c3 d3
      go_wp2_with fail
      refine (l_heldLayout0 _).mono ?_
      rintro e w5 ⟨rfl, hb⟩
      have B5 := Lib.hid (Later.trans B4.out hb)
      have C5 := Lib.hid (cell_up C4.out hb)
      have D5 := Lib.hid (cell_up D4.out hb)
      have c5 := C5.out.1; have d5 := D5.out.1
      have z5 := D5.out.2
      have z5a := C5.out.2
      clear hb c4 d4
      go_wp2_with fail
      refine (i_ReadNo HNO.out _ hs2 (HT.out.later B5.out) (HM.out.later B5.out) (HE.out.lat B5.out)).mono ?_
      rintro e w6 ⟨rfl, hb⟩
      have B6 := Lib.hid (Later.trans B5.out hb)
      have C6 := Lib.hid (cell_up C5.out hb)
      have D6 := Lib.hid (cell_up D5.out hb)
      have c6 := C6.out.1; have d6 := D6.out.1
      have z6 := D6.out.2
      have z6a := C6.out.2
      clear hb c5 d5
      go_wp2_with fail
      refine (l_eqLayout_same _ _ 0 0 0 0 [] _ (Sgs.nil _ _) (Sgs.nil _ _)).mono ?_
      rintro e w7 ⟨rfl, hb⟩
      have hb' := Later.trans ((Later.refl w6).alloc _) hb
      have B7 := Lib.hid (Later.trans B6.out hb')
      have D7 := Lib.hid (cell_up D6.out hb')
      have d7 := D7.out.1
      have z7 := D7.out.2
      clear hb hb' c6 d6
      go_wp2_with fail
      refine (l_heldLayout0 _).mono ?_
      rintro e w8 ⟨rfl, hb⟩
      have B8 := Lib.hid (Later.trans B7.out hb)
      clear hb d7
      go_wp2_with fail
      go_ret
      exact ⟨rfl, by first | exact B8.out | exact B8.out.drew⟩
end Go.Proofs.YtkhhoajoionlfaaDoor
