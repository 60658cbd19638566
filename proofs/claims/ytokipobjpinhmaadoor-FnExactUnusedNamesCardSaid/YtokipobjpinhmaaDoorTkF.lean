/- The laws' helpers on tokens: equal, marked, held. -/
import Derived.Test.YtokipobjpinhmaaDoorTks
import Derived.Test.YtokipobjpinhmaaDoorHeld
import Derived.Test.YtokipobjpinhmaaDoorNmM
namespace Go.Proofs.YtokipobjpinhmaaDoor
open Go.RowKit Go.Shelf
set_option maxHeartbeats 4000000
set_option maxRecDepth 100000
set_option linter.unusedVariables false
set_option linter.unusedSimpArgs false
/-- the text that marks number m -/
def mkX (m : Nat) : List UInt8 := 109 :: Lib.decDigits m
theorem l_markText (m : Nat) (w : World) (h0 : 1 ≤ m) (h1 : m ≤ 1000000000) : Calls Tryd.prog 69 #[.int .i64 m] w fun e w' => e = .returned (.string (tx (mkX m))) ∧ Later w w' := by
  obtain ⟨D, hD⟩ : ∃ D, D = Lib.decDigits m := ⟨_, rfl⟩
  have HM : Hid (mkX m = 109 :: D) := Lib.hid (by rw [hD]; rfl)
  have HD := Lib.hid hD
  rw [HM.out]
  have hDl : D.length ≤ 12 := by rw [hD]; exact dec_len1 11 m (by omega)
  clear hD
  go_enter Tryd.func69, Tryd.ntmps69
  go_wp2_with fail
  go_loopw [0, 3] (fun i o wr => ∃ (j : Nat) (O : List UInt8), i = .int .i64 j ∧ o = .string (tx O) ∧ j ≤ m ∧ Hid ((if j = 0 then O else Lib.decDigits j ++ O) = D) ∧ Later w wr) (fun i _ _ => (intOf i).toNat)
  case atStart => exact ⟨m, [], rfl, rfl, by omega, Lib.hid (by rw [if_neg (by omega), List.append_nil, HD.out]), Later.refl _⟩
  case round =>
    obtain ⟨j, O, rfl, rfl, hj, HO, hb⟩ := hrel
    have B3 := Lib.hid hb
    clear hb
    have hOl : O.length ≤ 12 := by
      have h := congrArg List.length HO.out
      split at h
      · omega
      · rw [List.length_append] at h; omega
    have hz : (tx O).size ≤ 1000 := by rw [tx_size]; omega
    by_cases hj0 : j = 0
    · subst hj0
      have HE : Hid (O = D) := Lib.hid (by have := HO.out; rwa [if_pos rfl] at this)
      go_wp2_with fail
      go_ret
      rw [← HE.out]
      exact ⟨rfl, B3.out⟩
    · have hcv := conv1 (48 + (j : Int) % 10) (by omega) (by omega)
      have e2 : (j : Int).tmod 10 = (j : Int) % 10 := Int.tmod_eq_emod_of_nonneg (by omega)
      have e1 : IntKind.i64.wrap ((j : Int).tdiv 10) = ((j / 10 : Nat) : Int) := by rw [Int.tdiv_eq_ediv_of_nonneg (by omega), IntWalk.i64_in _ (by omega)]; omega
      have e3 : IntKind.i64.wrap (48 + (j : Int) % 10) = 48 + (j : Int) % 10 := IntWalk.i64_in _ (by omega)
      have e4 : IntKind.u8.wrap (48 + (j : Int) % 10) = 48 + (j : Int) % 10 := IntWalk.u8_in _ (by omega)
      have HN : Hid ((if j / 10 = 0 then UInt8.ofNat (48 + (j : Int) % 10).toNat :: O else Lib.decDigits (j / 10) ++ (UInt8.ofNat (48 + (j : Int) % 10).toNat :: O)) = D) := Lib.hid (by
        have h := HO.out
        rw [if_neg hj0] at h
        rw [← h, show (48 + (j : Int) % 10).toNat = 48 + j % 10 by omega]
        by_cases h9 : j / 10 = 0
        · rw [if_pos h9, dec_one j (by omega)]
          show _ = [dg1 j] ++ O
          rw [show j % 10 = j by omega]; rfl
        · rw [if_neg h9, dec_more j (by omega)]
          simp [dg1])
      have HNY : Hid (∀ Y, Y = [UInt8.ofNat (48 + (j : Int) % 10).toNat] → (if j / 10 = 0 then Y ++ O else Lib.decDigits (j / 10) ++ (Y ++ O)) = D) := Lib.hid (by rintro Y rfl; exact HN.out)
      obtain ⟨Y, hY⟩ : ∃ Y, Y = [UInt8.ofNat (48 + (j : Int) % 10).toNat] := ⟨_, rfl⟩
      have HN2 := Lib.hid (HNY.out Y hY)
      have hz1 : (tx Y).size = 1 := by rw [hY]; rfl
      rw [← hY] at hcv
      clear hY HN HNY
      have hlt : decide ((0 : Int) < (j : Int)) = true := by simp; omega
      have hlt2 : (0 : Int) < (j : Int) := by omega
      go_wp2_with fail
      go_roundw
      case rel => exact ⟨j / 10, _, rfl, congrArg Value.string (tx_app _ _), by omega, HN2, (by repeat (first | (with_reducible exact Later.refl _) | (with_reducible exact Hid.out (by assumption)) | (with_reducible refine Later.alloc ?_ _) | (with_reducible refine Later.setCell ?_ (by simp; omega) _) | (with_reducible refine Later.setCell ?_ (by simp) _) | (with_reducible refine Later.drewN ?_ _) | (with_reducible refine Later.drew ?_) | (with_reducible refine Later.trans ?_ (Hid.out (by assumption)))))⟩
      case measure => simp [intOf]; omega
/-- a list of tokens of which the first k are marked -/
def mkT (L : List Tkn) (k : Nat) : List Tkn := (List.range L.length).map fun j => if j < k then (1 + 2 * (j : Int), mkX (2 + 2 * j)) else (tkx L j, tsx L j)
theorem mkT_len (L : List Tkn) (k : Nat) : (mkT L k).length = L.length := by simp [mkT]
theorem mkT_at (L : List Tkn) (k j : Nat) (h : j < L.length) : (mkT L k).getD j (0, []) = if j < k then (1 + 2 * (j : Int), mkX (2 + 2 * j)) else (tkx L j, tsx L j) := by
  rw [List.getD_eq_getElem?_getD]; simp [mkT, h]
theorem mkT_kx (L : List Tkn) (k j : Nat) (h : j < L.length) (hk : j < k) : tkx (mkT L k) j = 1 + 2 * (j : Int) := by unfold tkx; rw [mkT_at L k j h, if_pos hk]
theorem mkT_sx (L : List Tkn) (k j : Nat) (h : j < L.length) (hk : j < k) : tsx (mkT L k) j = mkX (2 + 2 * j) := by unfold tsx; rw [mkT_at L k j h, if_pos hk]
theorem mkT_0 (L : List Tkn) : mkT L 0 = L := by
  apply List.ext_getElem
  · exact mkT_len L 0
  · intro j h1 h2
    have := mkT_at L 0 j h2
    rw [List.getD_eq_getElem?_getD, List.getElem?_eq_getElem h1] at this
    rw [kx_at L j h2]
    simpa using this
theorem tcl_get (L : List Tkn) (i : Nat) (h : i < L.length * 2) : (tcl L)[i]? = some (if i % 2 = 0 then .int .i64 (tkx L (i / 2)) else .string (tx (tsx L (i / 2)))) := by
  by_cases hi : i % 2 = 0
  · rw [if_pos hi]
    have := tcl_0 L (i / 2) (by omega)
    rwa [show i / 2 * 2 = i by omega] at this
  · rw [if_neg hi]
    have := tcl_1 L (i / 2) (by omega)
    rwa [show i / 2 * 2 + 1 = i by omega] at this
theorem mkT_set (L : List Tkn) (k : Nat) (hk : k < L.length) : ((tcl (mkT L k)).set (k * 2) (.int .i64 (1 + 2 * (k : Int)))).set (k * 2 + 1) (.string (tx (mkX (2 + 2 * k)))) = tcl (mkT L (k + 1)) := by
  apply List.ext_getElem?
  intro i
  by_cases hi : i < L.length * 2
  · rw [List.getElem?_set, List.getElem?_set, List.length_set, tcl_len, mkT_len, tcl_get _ i (by rw [mkT_len]; exact hi), tcl_get _ i (by rw [mkT_len]; exact hi)]
    have hj : i / 2 < L.length := by omega
    unfold tkx tsx
    rw [mkT_at L k (i / 2) hj, mkT_at L (k + 1) (i / 2) hj]
    by_cases e1 : k * 2 + 1 = i
    · subst e1
      rw [if_pos rfl, if_pos (by omega), if_neg (by omega), show (k * 2 + 1) / 2 = k by omega, if_pos (by omega)]
    · rw [if_neg e1]
      by_cases e2 : k * 2 = i
      · subst e2
        rw [if_pos rfl, if_pos (by omega), if_pos (by omega), show k * 2 / 2 = k by omega, if_pos (by omega)]
      · rw [if_neg e2]
        by_cases c : i / 2 < k
        · have c2 : i / 2 < k + 1 := by omega
          simp only [if_pos c, if_pos c2]
        · have c2 : ¬ i / 2 < k + 1 := by omega
          simp only [if_neg c, if_neg c2]
  · rw [List.getElem?_eq_none (by simp [tcl_len, mkT_len]; omega), List.getElem?_eq_none (by simp [tcl_len, mkT_len]; omega)]
theorem mkX_len (m : Nat) (h : m ≤ 1000000000) : (mkX m).length ≤ 13 := by
  have := dec_len1 11 m (by omega)
  simp [mkX]; omega
theorem mkT_R (L : List Tkn) (k : Nat) (hl : L.length ≤ 100000000) (h : ∀ x ∈ L, TkR x) : ∀ x ∈ mkT L k, TkR x := by
  intro x hx
  obtain ⟨j, hj, rfl⟩ := List.mem_map.1 hx
  rw [List.mem_range] at hj
  by_cases c : j < k
  · simp only [if_pos c]
    refine ⟨⟨by show _ ≤ (1 + 2 * (j : Int)); omega, by show (1 + 2 * (j : Int)) ≤ _; omega⟩, ?_⟩
    have := mkX_len (2 + 2 * j) (by omega)
    show (mkX (2 + 2 * j)).length ≤ _
    omega
  · simp only [if_neg c]; exact h _ (kx_mem L j hj)
theorem grown_of_later {a b : World} (k : Later a b) (r : Option Nat) : a.grownBy b r := ⟨k.os, k.tape, k.output, k.size, fun i hi _ => k.block i hi⟩
def MarkedT (w : World) (base : Nat) (T : TypeId) (v : Value) (L : List Tkn) (e : Ending) (w' : World) : Prop :=
  e = .returned (.int .i64 (1 + 2 * (L.length : Int))) ∧ OwnK w' base T v (mkT L L.length) ∧ w.grownBy w' v.ownBlock
end Go.Proofs.YtokipobjpinhmaaDoor
