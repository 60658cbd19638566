/- slices.Concat on names, by Grow's contract; all names of a program, those that are assigned. -/
import Derived.Test.YtokipobjpinhmaaDoorPuS
import Derived.Test.YtokipobjpinhmaaDoorPsWa
import Derived.Shelf.Spec.SlicesGrow
namespace Go.Proofs.YtokipobjpinhmaaDoor
open Go.RowKit Go.Shelf
set_option maxHeartbeats 4000000
set_option maxRecDepth 100000
set_option linter.unusedVariables false
set_option linter.unusedSimpArgs false
def growN_ren : Go.Shelf.Ren := ⟨fun | 4 => 106 | n => n, fun | 22 => 24 | 25 => 9 | 3 => 3 | 4 => 4 | 9 => 9 | 20 => 20 | 0 => 0 | n => n, fun | n => n⟩
theorem growN : Go.Proofs.Lays8.n4 Tryd.prog growN_ren := {
  mixed := by kernel_rfl
  f4 := ⟨Tryd.f106.name, by decide, Tryd.func106.trans (congrArg some (by kernel_rfl))⟩
  t0 := Tryd.underlying0
  a0 := Tryd.isAgg0
  z0 := Tryd.sizeOf0
  v0 := Tryd.zeroValue0
  t3 := Tryd.underlying3
  a3 := Tryd.isAgg3
  z3 := Tryd.sizeOf3
  v3 := Tryd.zeroValue3
  t4 := Tryd.underlying4
  a4 := Tryd.isAgg4
  z4 := Tryd.sizeOf4
  v4 := Tryd.zeroValue4
  t9 := Tryd.underlying9
  a9 := Tryd.isAgg9
  z9 := Tryd.sizeOf9
  v9 := Tryd.zeroValue9
  t20 := Tryd.underlying20
  a20 := Tryd.isAgg20
  z20 := Tryd.sizeOf20
  v20 := Tryd.zeroValue20
  t22 := Tryd.underlying24
  a22 := Tryd.isAgg24
  z22 := Tryd.sizeOf24
  v22 := Tryd.zeroValue24 }
theorem i_GrowM (n : Nat) (h0 : 0 < n) (hn : n ≤ 1000000) (w : World) : Calls Tryd.prog 106 #[.slice none 0 0, .int .i64 n] w fun e w' => ∃ v, e = .returned v ∧ OwnT w' w.heap.size v [] ∧ Later w w' := by
  obtain ⟨i0, hi, hz0, hz1, hz2⟩ := info_parts info_str
  refine (Any8.slices_Grow_grow growN i0 (.string ⟨#[]⟩) hi hz0 (by rw [hz1]; omega) none 0 0 n [] w (Nat.le_refl _) (by omega) (by rw [hz2]; omega) (by omega) (by simp) (fun _ => rfl) (fun a h => by cases h)).mono ?_
  rintro e w' ⟨rfl, rfl⟩
  refine ⟨_, rfl, ⟨rfl, .inr ⟨w.heap.size, _, _, rfl, Nat.le_refl _, by first | exact heap_alloc_new w.drew _ | exact heap_alloc_new _ _, Nat.zero_le _, ?_, ?_, by simp⟩⟩, by first | exact Later.drew_alloc | exact (Later.refl _).drew.alloc _ | exact ((Later.refl _).drew).alloc⟩
  · exact Go.grownCap_le_maxLen _ _ _ _ (by unfold maxLen; omega)
  · have := Go.grownCap_ge w (0 + n) 0 (growN_ren.t 25)
    have e : (Value.string ⟨#[]⟩).cells.size = 1 := rfl
    simp only [Nat.zero_add] at this
    simp [Builtin.zeroCells, e]
    omega
/-- append(out, m...), m a slice of texts -/
theorem appTm {m : Nat} {ops : Array Oper} {rest : List Oper} {o : Oper} {act : Act} {Q : Exit → Act → World → Prop} (hgd : o.guard = none) (s x : Operand)
    (ho : o.op = .call { callee := .builtin .append, args := #[s, x], argTypes := #[24, 24] })
    (base : Nat) (W : World) (v : Value) (l M : List (List UInt8)) (b off : Nat) (n tc : Nat) (hown : OwnT W base v l) (hM : Stm m W (some ⟨b, off, none⟩) n M) (hs : act.eval s = v) (hx : act.eval x = .slice (some ⟨b, off, none⟩) n tc) (hl : l.length ≤ 100000000) (hm : n ≤ 100000000) (hbase : base ≤ W.heap.size)
    (h : ∀ v' w', OwnT w' base v' (l ++ M) → W.grownBy w' v.ownBlock → wpList Tryd.prog ops Q rest (act.put o.dst v') w') : wpList Tryd.prog ops Q (o :: rest) act W := by
  obtain ⟨i0, hi, hz0, hz1, hz2⟩ := info_parts info_str
  have hMl := hM.1
  refine wpList_append_own _ hgd s x _ ho base 9 i0 (.string ⟨#[]⟩) 1 16 Tryd.underlying24 hi hz0 hz1 hz2 rfl (by decide) v l.length _ hs hown ⟨b, off, none⟩ n tc (M.map (fun x => Value.string (tx x))) hx (by simp [hMl]) ?_ ?_ (by unfold maxLen; omega) (by omega) hbase ?_
  · intro j u hj
    have hj3 : j < n := by
      have := (List.getElem?_eq_some_iff.1 hj).1
      simpa [hMl] using this
    obtain ⟨b', off', e, c0⟩ := hM.at j hj3
    cases e
    rw [Addr.add_lit]
    rw [List.getElem?_map, List.getElem?_eq_getElem (by omega), wx_at M j (by omega)] at hj
    rw [c0]; exact hj
  · intro u hu
    obtain ⟨y, _, rfl⟩ := List.mem_map.1 hu
    rfl
  · intro v' w' h1 h2 _
    refine h v' w' ?_ h2
    unfold OwnT
    rw [List.length_append, hMl, List.map_append]; exact h1
theorem ownT_monoN {w : World} {base base' : Nat} {v : Value} {l : List (List UInt8)} (h : OwnT w base v l) (hb : base' ≤ base) : OwnT w base' v l := by
  rcases h.2 with h2 | ⟨g, cap, cur, rfl, h3, h4⟩
  · exact ⟨h.1, .inl h2⟩
  · exact ⟨h.1, .inr ⟨g, cap, cur, rfl, Nat.le_trans hb h3, h4⟩⟩
/-- 'the slice value (a, m, ..) of slices of names reads as Q', none of them nil -/
def Nmx (w : World) (a : Option Addr) (m : Nat) (Q : List (List (List UInt8))) : Prop :=
  Q.length = m ∧ ∀ j, j < m → ∃ b off tb o2 n tc, a = some ⟨b, off, none⟩ ∧ w.cell? ⟨b, off + j, none⟩ = some (.slice (some ⟨tb, o2, none⟩) n tc) ∧ Sts w (some ⟨tb, o2, none⟩) n (qn Q j)
theorem Nmx.later {w w' : World} {a : Option Addr} {m : Nat} {Q : List (List (List UInt8))} (h : Nmx w a m Q) (hb : Later w w') : Nmx w' a m Q := by
  refine ⟨h.1, fun j hj => ?_⟩
  obtain ⟨b, off, tb, o2, n, tc, rfl, hc, hs⟩ := h.2 j hj
  exact ⟨b, off, tb, o2, n, tc, rfl, by rw [hb.cell (p := ⟨b, off + j, none⟩) (cell_lt hc)]; exact hc, hs.later hb⟩
theorem i_ConcatN (a : Option Addr) (m cap : Nat) (Q : List (List (List UInt8))) (w : World) (hq : Nmx w a m Q) (hm : m ≤ 10) (hl : ∀ k, ((Q.take k).flatten).length ≤ 10000) (h0 : 0 < Q.flatten.length) : Calls Tryd.prog 70 #[.slice a m cap] w fun e w' => ∃ v, e = .returned v ∧ OwnT w' w.heap.size v Q.flatten ∧ Later w w' := by
  have HQ := Lib.hid hq
  have HN := Lib.hid hq.1
  have HL := Lib.hid hl
  have HG := Lib.hid (fun n W h1 h2 => i_GrowM n h1 h2 W)
  have HF : Hid ((Q.take m).flatten = Q.flatten) := Lib.hid (by rw [List.take_of_length_le (by rw [HN.out]; exact Nat.le_refl _)])
  have H0 : Hid (0 < (Q.take m).flatten.length) := Lib.hid (by rw [HF.out]; exact h0)
  clear h0
  clear hq hl
  go_enter Tryd.func70, Tryd.ntmps70
  go_wp2
  go_loopw [3, 11] (fun s i wr => ∃ k : Nat, k ≤ m ∧ i = .int .i64 k ∧ s = .int .i64 ((Q.take k).flatten.length : Nat) ∧ Later w wr) (fun _ i _ => m - (intOf i).toNat)
  case atStart => exact ⟨0, by omega, rfl, rfl, Later.refl _⟩
  case round =>
    obtain ⟨k, hk, rfl, rfl, hb⟩ := hrel
    have B3 := Lib.hid hb
    by_cases hlt : k < m
    · obtain ⟨b, off, tb, o2, n, tc, rfl, hc, hs⟩ := (HQ.out.later hb).2 k hlt
      have e1 : (Q.take (k + 1)).flatten.length = (Q.take k).flatten.length + n := by rw [qn_take Q k (by rw [HN.out]; exact hlt), List.length_append, hs.1]
      have h1 := HL.out k
      have h2 := HL.out (k + 1)
      obtain ⟨B, hB⟩ : ∃ B, B = (Q.take (k + 1)).flatten.length := ⟨_, rfl⟩
      rw [← hB] at e1 h2
      have HB := Lib.hid hB
      clear hB hb hs
      generalize (Q.take k).flatten.length = A at e1 h1 ⊢
      have ew : IntKind.i64.wrap ((A : Int) + (n : Int)) = (B : Int) := by rw [show ((A : Int) + (n : Int)) = (B : Int) by omega]; exact IntWalk.i64_in _ (by omega)
      have e2 : decide ((B : Int) < 0) = false := decide_eq_false (by omega)
      go_wp2_with fail
      go_roundw
      case rel => exact ⟨k + 1, by omega, by go_num, by rw [← HB.out]; first | rfl | (congr 1; omega), (by repeat (first | (with_reducible exact Later.refl _) | (with_reducible exact Hid.out (by assumption)) | (with_reducible refine Later.alloc ?_ _) | (with_reducible refine Later.setCell ?_ (by simp; omega) _) | (with_reducible refine Later.setCell ?_ (by simp) _) | (with_reducible refine Later.drewN ?_ _) | (with_reducible refine Later.drew ?_) | (with_reducible refine Later.trans ?_ (Hid.out (by assumption)))))⟩
      case measure => simp [intOf]; omega
    · obtain rfl : k = m := by omega
      have h1 := HL.out k
      obtain ⟨N0, hN0⟩ : ∃ A, A = (Q.take k).flatten.length := ⟨_, rfl⟩
      rw [← hN0] at h1 H0 ⊢
      clear hN0 hb hlt
      go_wp2_with fail
      refine (HG.out N0 _ H0.out (by omega)).mono ?_
      rintro e w1 ⟨v, rfl, ho, hb⟩
      have B1 := Lib.hid (Later.trans B3.out hb)
      have O1 : Hid (OwnT w1 w.heap.size v []) := Lib.hid (ownT_monoN ho B3.out.size)
      clear ho hb
      go_wp2_with fail
      go_loopw [6, 27] (fun v i wr => ∃ k2 : Nat, k2 ≤ k ∧ i = .int .i64 k2 ∧ OwnT wr w.heap.size v (Q.take k2).flatten ∧ Later w wr) (fun _ i _ => k - (intOf i).toNat)
      case atStart => exact ⟨0, by omega, rfl, O1.out, B1.out⟩
      case round =>
        obtain ⟨k2, hk2, rfl, ho, hb⟩ := hrel
        have B4 := Lib.hid hb
        have O4 := Lib.hid ho
        have hl4 := HL.out k2
        by_cases hlt : k2 < k
        · obtain ⟨b, off, tb, o2, n, tc, rfl, hc, hs⟩ := (HQ.out.later hb).2 k2 hlt
          have e1 := qn_take Q k2 (by rw [HN.out]; exact hlt)
          have HE := Lib.hid e1
          have hn : n ≤ 10000 := by have := HL.out (k2 + 1); rw [e1, List.length_append, hs.1] at this; omega
          have HS := Lib.hid hs
          clear e1 hs ho hb
          go_wp2_with (at_builtin; go_must (refine appTm rfl _ _ rfl w.heap.size _ _ _ (qn Q k2) tb o2 n tc O4.out HS.out rfl rfl (by omega) (by omega) B4.out.size ?_; intro v' w7 ho hgr))
          have O7 := Lib.hid ho
          rw [← HE.out] at O7
          have B7 : Hid (Later w w7) := Lib.hid (Below.grown B4.out hgr B4.out.size (fun j hj => (O4.out.lt j hj).1))
          clear ho hgr
          go_roundw
          case rel => exact ⟨k2 + 1, by omega, by go_num, O7.out, B7.out⟩
          case measure => simp [intOf]; omega
        · obtain rfl : k2 = k := by omega
          clear ho hb
          go_wp2_with fail
          go_ret
          exact ⟨_, rfl, by rw [← HF.out]; exact O4.out, B4.out⟩
end Go.Proofs.YtokipobjpinhmaaDoor
