/- Tokens, of the program: texts joined, and comments stripped. -/
import Derived.Test.YtpeebgkgccacbaaDoorTkP
import Derived.Test.YtpeebgkgccacbaaDoorTkD
import Derived.Test.YtpeebgkgccacbaaDoorOwnT
import Derived.Test.YtpeebgkgccacbaaDoorNum0
import Derived.Test.YtpeebgkgccacbaaDoorSl
import Derived.Shelf.Strings.Cut
import Derived.Shelf.Strings.SplitShaped
import Derived.Shelf.Strings.BuilderK
namespace Go.Proofs.YtpeebgkgccacbaaDoor
open Go.RowKit Go.Shelf
set_option maxHeartbeats 4000000
set_option maxRecDepth 100000
set_option linter.unusedVariables false
set_option linter.unusedSimpArgs false
/-! a builder of the call's own -/
def Bld (w : World) (b : Nat) (l : List UInt8) : Prop := Lib.IsBuilderF 87 5 b b (Lib.byteCells l) w
theorem BuilderAtF.later {T e : TypeId} {B b : Nat} {p : Value} {bs : List Value} {w w' : World} (h : Lib.BuilderAtF T e B b p bs w) (k : Later w w') : Lib.BuilderAtF T e B b p bs w' := by
  have hlt := h.lt
  obtain ⟨hB, v, hb, hown, hne⟩ := h
  exact ⟨hB, v, (k.block b hlt).trans hb, hown.kept (row := none) ⟨k.os, k.tape, k.output, k.size, fun i hi _ => k.block i hi⟩ (by cases hv : v.ownBlock <;> simp), hne⟩
theorem Bld.later {w w' : World} {b : Nat} {l : List UInt8} (h : Bld w b l) (k : Later w w') : Bld w' b l := by
  rcases h with h | h
  · exact .inl (BuilderAtF.later h k)
  · exact .inr (BuilderAtF.later h k)
theorem Bld.lt {w : World} {b : Nat} {l : List UInt8} (h : Bld w b l) : b < w.heap.size := by
  rcases h with h | h
  · exact h.lt
  · exact h.lt
theorem bld_new (w : World) : Bld (w.alloc (.cells #[.pointer none, .slice none 0 0] 87)) w.heap.size [] := Lib.IsBuilderF.of (Lib.fresh_isBuilder _ _ w)
theorem b_WriteString (b : Nat) (l m : List UInt8) (w : World) (h : Bld w b l) (hl : l.length + m.length ≤ 140737488355328) :
    Calls Tryd.prog 82 #[.pointer (some ⟨b, 0, none⟩), .string (tx m)] w (fun e w' => e = .returned (.tuple #[.int .i64 m.length, .nilIface]) ∧ Bld w' b (l ++ m) ∧ Below b w w') := by
  refine (Any.Builder_WriteString_k (ρ := Tryd.laysB_ren) { Tryd.laysB with } Tryd.laysBX b b (Lib.byteCells l) (tx m) w h (by rw [Lib.byteCells_length]; exact hl) (Nat.le_of_lt h.lt)).mono ?_
  rintro e w' ⟨he, hb, hk, _⟩
  refine ⟨he, .inr ?_, hk⟩
  rw [Lib.byteCells_append]
  exact hb
theorem b_String (b : Nat) (l : List UInt8) (w : World) (h : Bld w b l) :
    Calls Tryd.prog 83 #[.pointer (some ⟨b, 0, none⟩)] w (fun e w' => e = .returned (.string (tx l)) ∧ Below b w w') :=
  (Any.Builder_String_any_k (ρ := Tryd.laysB_ren) { Tryd.laysB169 with } Tryd.laysBX b b l w h (Nat.le_of_lt h.lt)).mono fun e w' ⟨he, _, hk, _⟩ => ⟨he, hk⟩
/-! rows of texts -/
def Wrd (w : World) (a : Option Addr) (n : Nat) (O : List (List UInt8)) : Prop :=
  O.length = n ∧ ∀ j, j < n → ∃ b off, a = some ⟨b, off, none⟩ ∧ w.cell? ⟨b, off + j, none⟩ = some (.string (tx (O.getD j [])))
theorem Wrd.later {w w' : World} {a : Option Addr} {n : Nat} {O : List (List UInt8)} (h : Wrd w a n O) (hb : Later w w') : Wrd w' a n O := by
  refine ⟨h.1, fun j hj => ?_⟩
  obtain ⟨b, off, rfl, hc⟩ := h.2 j hj
  exact ⟨b, off, rfl, by rw [hb.cell (p := ⟨b, off + j, none⟩) (cell_lt hc)]; exact hc⟩
theorem ownT_nil (w : World) (base : Nat) : OwnT w base (.slice none 0 0) [] := ⟨rfl, .inl ⟨rfl, rfl⟩⟩
theorem OwnT.rd {w : World} {base : Nat} {v : Value} {O : List (List UInt8)} (h : OwnT w base v O) : ∃ a cap, v = .slice a O.length cap ∧ O.length ≤ cap ∧ Wrd w a O.length O ∧ O.length ≤ 9223372036854775807 := by
  have h1 : w.ownsRow base 9 1 v O.length (O.map (fun x => Value.string (tx x))) := h
  rcases h1.2 with ⟨rfl, h0⟩ | ⟨g, cap, cur, rfl, hb, hg, hnc, hcm, _⟩
  · rw [h0]; exact ⟨none, 0, rfl, Nat.le_refl _, ⟨h0, fun j hj => by omega⟩, by omega⟩
  · have hm := hcm
    unfold maxLen at hm
    refine ⟨some ⟨g, 0, none⟩, cap, rfl, hnc, ⟨rfl, fun j hj => ⟨g, 0, rfl, ?_⟩⟩, by omega⟩
    rw [Nat.zero_add, h1.cellAt j (by omega), List.getElem?_map, List.getElem?_eq_getElem hj, List.getD_eq_getElem?_getD, List.getElem?_eq_getElem hj]; rfl
theorem flat_take (O : List (List UInt8)) (k : Nat) (h : k < O.length) : (O.take (k + 1)).flatten = (O.take k).flatten ++ O.getD k [] := by
  rw [List.take_succ_eq_append_getElem h, List.flatten_append, List.getD_eq_getElem?_getD, List.getElem?_eq_getElem h]; simp
theorem flat_le : ∀ (O : List (List UInt8)) (k : Nat), (O.take k).flatten.length ≤ O.flatten.length
  | [], k => by simp
  | x :: r, 0 => by simp
  | x :: r, k + 1 => by have := flat_le r k; simp [List.length_flatten] at this ⊢; omega
theorem flat_get (O : List (List UInt8)) (k : Nat) (h : k < O.length) : (O.getD k []).length ≤ O.flatten.length := by
  have h1 := flat_take O k h
  have h2 := flat_le O (k + 1)
  rw [h1, List.length_append] at h2
  omega
theorem i_joinedTexts (a : Option Addr) (n cap : Nat) (O : List (List UInt8)) (w : World) (hs : Wrd w a n O) (hn : n ≤ 9223372036854775807) (hl : O.flatten.length ≤ 1000000000) :
    Calls Tryd.prog 58 #[.slice a n cap] w fun e w' => e = .returned (.string (tx O.flatten)) ∧ Later w w' := by
  have HS := Lib.hid hs
  have HN := Lib.hid hs.1
  clear hs
  have B0 := Lib.hid (bld_new w)
  go_enter Tryd.func58, Tryd.ntmps58
  go_wp2_with fail
  go_loopw [8] (fun i wr => ∃ k : Nat, i = .int .i64 k ∧ k ≤ n ∧ Bld wr w.heap.size (O.take k).flatten ∧ Later w wr) (fun i _ => n - (intOf i).toNat)
  case atStart => exact ⟨0, rfl, by omega, by simpa using B0.out, (Later.refl _).alloc _⟩
  case round =>
    obtain ⟨k, rfl, hk, hB, hb⟩ := hrel
    have HB := Lib.hid hB; have H3 := Lib.hid hb
    clear hB B0
    by_cases hlt : k < n
    · obtain ⟨b, off, rfl, hc⟩ := (HS.out.later hb).2 k hlt
      have hkO : k < O.length := by rw [HN.out]; exact hlt
      have HF := Lib.hid (flat_take O k hkO)
      have hl1 := flat_le O k
      have hl2 := flat_get O k hkO
      obtain ⟨X, hX⟩ : ∃ X, X = O.getD k [] := ⟨_, rfl⟩
      obtain ⟨A, hA⟩ : ∃ A, A = (O.take k).flatten := ⟨_, rfl⟩
      rw [← hX] at hc hl2 HF; rw [← hA] at HB hl1 HF
      clear hX hA hb hkO
      go_wp2_with fail
      refine (b_WriteString _ A X _ HB.out (by omega)).mono ?_
      rintro e w4 ⟨rfl, h4, hb⟩
      have B4 := Lib.hid h4
      have H4 : Hid (Later w w4) := Lib.hid (Below.trans H3.out hb)
      clear h4 hb
      go_wp2_with fail
      go_roundw
      case rel => exact ⟨k + 1, by go_num, by omega, by rw [HF.out]; exact B4.out, H4.out⟩
      case measure => simp [intOf]; omega
    · obtain rfl : k = n := by omega
      have HT : Hid ((O.take k).flatten = O.flatten) := Lib.hid (by rw [List.take_of_length_le (by rw [HN.out]; exact Nat.le_refl _)])
      clear hb
      go_wp2_with fail
      refine (b_String _ _ _ HB.out).mono ?_
      rintro e w4 ⟨rfl, hb⟩
      have H4 : Hid (Later w w4) := Lib.hid (Below.trans H3.out hb)
      clear hb
      go_wp2_with fail
      go_ret
      rw [HT.out]
      exact ⟨rfl, H4.out⟩
theorem i_Split10 (s : ByteArray) (w : World) (hs : s.size ≤ 1048576) (hm : MaxL w) :
    Calls Tryd.prog 56 #[.string s, .string (tx [10])] w fun e w' =>
      ∃ q, q = (spl 10 s.data.toList).length ∧ e = .returned (.slice (some ⟨w.heap.size, 0, none⟩) q q) ∧ Wrd w' (some ⟨w.heap.size, 0, none⟩) q (spl 10 s.data.toList) ∧ Later w w' := by
  obtain ⟨m, hm⟩ := hm
  refine (Any.strings_Split { Tryd.laysM146 with } Tryd.laysM146.i9 s (tx [10]) m w (by omega) hm (by decide)).mono ?_
  rintro e w' ⟨h1, h2⟩
  have hc : Lib.countB s (tx [10]) = Lib.count s.data.toList [10] := rfl
  have hd := splitB_lists 10 s (Lib.countB s (tx [10])) (tx [10]) rfl
  rw [hc, spl_all 10] at hd
  have hq : Lib.countB s (tx [10]) + 1 = (spl 10 s.data.toList).length := by
    rw [hc, cnt_spl 10 (s.data.toList.length + 1) _ (by omega)]; rfl
  refine ⟨_, hq, h1, ⟨hq.symm, fun j hj => ⟨_, 0, rfl, ?_⟩⟩, by rw [h2]; exact (Later.refl _).alloc _⟩
  rw [h2, hc, Nat.zero_add, cell_of_row _ _ j _ _ (0, 0) (heap_alloc_new w _), ← hd, List.getElem?_toArray]
  have hl := congrArg List.length hd
  rw [List.length_map] at hl
  have hj2 : j < (Lib.splitB (tx [10]) 0 (Lib.count s.data.toList [10]) s).length := by rw [hl, ← hq]; exact hj
  rw [List.getElem?_map, List.getElem?_eq_getElem hj2, List.getD_eq_getElem?_getD, List.getElem?_map, List.getElem?_eq_getElem hj2]; rfl
theorem i_Cut35 (u : List UInt8) (w : World) (hs : u.length ≤ 1048576) (hm : MaxL w) :
    Calls Tryd.prog 57 #[.string (tx u), .string (tx [35])] w fun e w' => ∃ y b, e = .returned (.tuple #[.string (tx (c35 u)), .string y, .bool b]) ∧ Later w w' := by
  obtain ⟨m, hm⟩ := hm
  refine (Any.strings_Cut Tryd.lays145 (tx u) (tx [35]) m w (by rw [tx_size]; omega) hm).mono ?_
  rintro e w' ⟨rfl, n, rfl⟩
  exact ⟨_, _, by rw [← cut35]; rfl, (Later.refl _).drewN n⟩
theorem getD_spl_le (c : UInt8) (l : List UInt8) (k : Nat) : ((spl c l).getD k []).length ≤ l.length := by
  rw [List.getD_eq_getElem?_getD]
  by_cases h : k < (spl c l).length
  · rw [List.getElem?_eq_getElem h]; exact spl_le c l _ (List.getElem_mem _)
  · rw [List.getElem?_eq_none (by omega)]; simp
theorem i_StripComments (s : ByteArray) (w : World) (hs : s.size ≤ 1048576) (hM : MaxL w) : Calls Tryd.prog 27 #[.string s] w fun e w' => e = .returned (.tuple #[.string (tx (scV s.data.toList)), .int .i64 (scE s.data.toList)]) ∧ Later w w' := by
  obtain ⟨l, hl⟩ : ∃ l, l = s.data.toList := ⟨_, rfl⟩
  have hlen : l.length = s.size := by rw [hl]; rfl
  have SP := Lib.hid (i_Split10 s)
  have HM := Lib.hid hM
  rw [← hl] at SP ⊢
  clear hM hl
  by_cases h1 : 6000 < s.size
  · have e1 : scE l = 3 := by unfold scE; rw [hlen, if_pos h1]
    have e2 : scV l = [] := by unfold scV; rw [hlen, if_pos h1]
    rw [e1, e2]
    go_enter Tryd.func27, Tryd.ntmps27
    go_wp2_with fail
    go_ret2
    exact ⟨rfl, Later.refl _⟩
  · have e1 : scE l = 0 := by unfold scE; rw [hlen, if_neg h1]
    have e2 : scV l = stp false l := by unfold scV; rw [hlen, if_neg h1]
    rw [e1, e2]
    have h1' : s.size ≤ 6000 := by omega
    have hDl := stp_len false l
    have hD := stp_spl l.length l (Nat.le_refl _)
    obtain ⟨D, hDD⟩ : ∃ D, D = stp false l := ⟨_, rfl⟩
    rw [← hDD] at hDl hD ⊢
    have HD := Lib.hid hD
    have hcnt := spl_count 10 l
    have hpl := Lib.hid (getD_spl_le 10 l)
    clear h1 e1 e2 hD hDD
    go_enter Tryd.func27, Tryd.ntmps27
    go_wp2_with fail
    refine (SP.out _ hs HM.out).mono ?_
    rintro e w1 ⟨q, hq, rfl, hW, hb⟩
    obtain ⟨W, hWW⟩ : ∃ W, W = spl 10 l := ⟨_, rfl⟩
    rw [← hWW] at hW HD hcnt hpl hq
    have HW := Lib.hid hW
    have B1 := Lib.hid hb
    have HQ := Lib.hid hq
    have hq6 : q ≤ 6001 := by omega
    obtain ⟨g, hg⟩ : ∃ g, g = w.heap.size := ⟨_, rfl⟩
    have HG := Lib.hid hg
    rw [← hg] at HW ⊢
    clear hW hWW hb hq hcnt hg
    have hzD : D.length ≤ 6000 := by omega
    go_wp2_with fail
    go_loopw [4, 16] (fun v i wr => ∃ (O : List (List UInt8)) (k : Nat), i = .int .i64 k ∧ k ≤ q ∧ O.length ≤ 2 * k ∧ OwnT wr w1.heap.size v O ∧ Later w1 wr ∧ Hid (O.flatten ++ jnL k (W.drop k) = D)) (fun _ i _ => q - (intOf i).toNat)
    case atStart => exact ⟨[], 0, rfl, by omega, by simp, ownT_nil _ _, Later.refl _, Lib.hid (by rw [HD.out]; simp)⟩
    case round =>
      obtain ⟨O, k, rfl, hk, hO, ho, hb, HI⟩ := hrel
      have O3 := Lib.hid ho; have B3 := Lib.hid hb
      by_cases hlt : k < q
      · obtain ⟨b, off, hbo, hc⟩ := (HW.out.later hb).2 k hlt
        cases hbo
        rw [Nat.zero_add] at hc
        have hkW : k < W.length := by rw [← HQ.out]; exact hlt
        have hd : W.drop k = W.getD k [] :: W.drop (k + 1) := by
          rw [List.drop_eq_getElem_cons hkW, List.getD_eq_getElem?_getD, List.getElem?_eq_getElem hkW]; rfl
        have hu1 := hpl.out k
        obtain ⟨u, hu⟩ : ∃ u, u = W.getD k [] := ⟨_, rfl⟩
        rw [← hu] at hc hd hu1
        have HJ : Hid (O.flatten ++ (pcL k u ++ jnL (k + 1) (W.drop (k + 1))) = D) := Lib.hid (by have h := HI.out; rw [hd] at h; exact h)
        clear ho hb hu hd hkW
        by_cases hk0 : k = 0
        · subst hk0
          have HN : Hid ((O ++ [c35 u]).flatten ++ jnL 1 (W.drop 1) = D) := Lib.hid (by have h := HJ.out; rw [← h]; simp [pcL])
          clear HJ
          go_wp2_with fail
          refine (i_Cut35 u _ (by omega) (HM.out.later (Later.trans B1.out B3.out))).mono ?_
          rintro e w5 ⟨y, b, rfl, hb⟩
          have B5 := Lib.hid (Later.trans B3.out hb)
          have O5 := Lib.hid (O3.out.later hb)
          clear hb
          go_wp2_with (at_builtin; go_must (refine app1T rfl _ _ rfl w1.heap.size _ _ _ O (c35 u) O5.out rfl rfl (by first | omega | (rw [List.length_append, List.length_singleton]; omega)) B5.out.size ?_; intro v6 w6 ho hgr))
          have B6 : Hid (Later w1 w6) := Lib.hid (Below.grown B5.out hgr B5.out.size (fun j hj => (O5.out.lt j hj).1))
          have O6 := Lib.hid ho
          clear ho hgr
          go_wp2_with fail
          go_roundw
          case rel => exact ⟨_, 0 + 1, by go_num, by omega, by simp; omega, O6.out, B6.out, HN⟩
          case measure => simp [intOf]; omega
        · have hk1 : decide ((0 : Int) < (k : Int)) = true := by simp; omega
          have hk2 : (0 : Int) < (k : Int) := by omega
          have HN : Hid ((O ++ [[10]] ++ [c35 u]).flatten ++ jnL (k + 1) (W.drop (k + 1)) = D) := Lib.hid (by have h := HJ.out; rw [← h]; simp [pcL, show 0 < k by omega])
          clear HJ hk0
          go_wp2_with (at_builtin; go_must (refine app1T rfl _ _ rfl w1.heap.size _ _ _ O [10] O3.out rfl rfl (by first | omega | (rw [List.length_append, List.length_singleton]; omega)) B3.out.size ?_; intro v4 w4 ho hgr))
          have B4 : Hid (Later w1 w4) := Lib.hid (Below.grown B3.out hgr B3.out.size (fun j hj => (O3.out.lt j hj).1))
          have O4 := Lib.hid ho
          clear ho hgr
          go_wp2_with fail
          refine (i_Cut35 u _ (by omega) (HM.out.later (Later.trans B1.out B4.out))).mono ?_
          rintro e w5 ⟨y, b, rfl, hb⟩
          have B5 := Lib.hid (Later.trans B4.out hb)
          have O5 := Lib.hid (O4.out.later hb)
          clear hb
          go_wp2_with (at_builtin; go_must (refine app1T rfl _ _ rfl w1.heap.size _ _ _ (O ++ [[10]]) (c35 u) O5.out rfl rfl (by first | omega | (rw [List.length_append, List.length_singleton]; omega)) B5.out.size ?_; intro v6 w6 ho hgr))
          have B6 : Hid (Later w1 w6) := Lib.hid (Below.grown B5.out hgr B5.out.size (fun j hj => (O5.out.lt j hj).1))
          have O6 := Lib.hid ho
          clear ho hgr
          go_wp2_with fail
          go_roundw
          case rel => exact ⟨_, k + 1, by go_num, by omega, by simp; omega, O6.out, B6.out, HN⟩
          case measure => simp [intOf]; omega
      · obtain rfl : k = q := by omega
        have HE : Hid (O.flatten = D) := Lib.hid (by
          have h := HI.out
          rw [List.drop_of_length_le (by rw [HQ.out]; exact Nat.le_refl _)] at h
          simpa [jnL] using h)
        obtain ⟨a, cap, rfl, hc, hWr, hmx⟩ := ho.rd
        have WR := Lib.hid hWr
        have JT := Lib.hid (fun W => i_joinedTexts a O.length cap O W)
        clear ho hb hWr
        go_wp2_with fail
        refine (JT.out _ WR.out hmx (by rw [HE.out]; omega)).mono ?_
        rintro e w4 ⟨rfl, hb⟩
        have B4 := Lib.hid (Later.trans B3.out hb)
        clear hb
        go_wp2_with fail
        go_ret2
        rw [HE.out]
        exact ⟨rfl, Later.trans B1.out B4.out⟩
end Go.Proofs.YtpeebgkgccacbaaDoor
