/- The laws' helpers on terms: marked, held. | The walk of the exact law on ParseExpression. -/
import Derived.Test.YtggnhdeldmkdmaaGreatDoorPsq
import Derived.Test.YtggnhdeldmkdmaaGreatDoorPqV
namespace Go.Proofs.YtggnhdeldmkdmaaGreatDoor
open Go.RowKit Go.Shelf
set_option maxHeartbeats 4000000
set_option maxRecDepth 100000
set_option linter.unusedVariables false
set_option linter.unusedSimpArgs false
/-- a list of terms of which the first k are marked, from number c on -/
def mkR (c : Nat) (L : List Trm) (k : Nat) : List Trm := (List.range L.length).map fun j => if j < k then ((c : Int) + 3 * (j : Int), mkX (c + 1 + 3 * j), (c : Int) + 3 * (j : Int) + 2) else (rkx L j, rsx L j, rnx L j)
theorem mkR_len (c : Nat) (L : List Trm) (k : Nat) : (mkR c L k).length = L.length := by simp [mkR]
theorem mkR_at (c : Nat) (L : List Trm) (k j : Nat) (h : j < L.length) : (mkR c L k).getD j (0, [], 0) = if j < k then ((c : Int) + 3 * (j : Int), mkX (c + 1 + 3 * j), (c : Int) + 3 * (j : Int) + 2) else (rkx L j, rsx L j, rnx L j) := by
  rw [List.getD_eq_getElem?_getD]; simp [mkR, h]
theorem mkR_k (c : Nat) (L : List Trm) (k j : Nat) (h : j < L.length) (hk : j < k) : rkx (mkR c L k) j = (c : Int) + 3 * (j : Int) ∧ rsx (mkR c L k) j = mkX (c + 1 + 3 * j) ∧ rnx (mkR c L k) j = (c : Int) + 3 * (j : Int) + 2 := by
  unfold rkx rsx rnx; rw [mkR_at c L k j h, if_pos hk]; exact ⟨rfl, rfl, rfl⟩
theorem mkR_0 (c : Nat) (L : List Trm) : mkR c L 0 = L := by
  apply List.ext_getElem
  · exact mkR_len c L 0
  · intro j h1 h2
    have := mkR_at c L 0 j h2
    rw [List.getD_eq_getElem?_getD, List.getElem?_eq_getElem h1] at this
    rw [rk_at L j h2]
    simpa using this
theorem mkR_set (c : Nat) (L : List Trm) (k : Nat) (hk : k < L.length) : (((rcl (mkR c L k)).set (k * 3) (.int .i64 ((c : Int) + 3 * (k : Int)))).set (k * 3 + 1) (.string (tx (mkX (c + 1 + 3 * k))))).set (k * 3 + 2) (.int .i64 ((c : Int) + 3 * (k : Int) + 2)) = rcl (mkR c L (k + 1)) := by
  apply List.ext_getElem?
  intro i
  by_cases hi : i < L.length * 3
  · rw [List.getElem?_set, List.getElem?_set, List.getElem?_set, List.length_set, List.length_set, rcl_len, mkR_len, rcl_get _ i (by rw [mkR_len]; exact hi), rcl_get _ i (by rw [mkR_len]; exact hi)]
    have hj : i / 3 < L.length := by omega
    unfold rkx rsx rnx
    rw [mkR_at c L k _ hj, mkR_at c L (k + 1) _ hj]
    by_cases e1 : k * 3 + 2 = i
    · subst e1
      rw [if_pos rfl, if_pos (by omega), if_neg (by omega), if_neg (by omega), show (k * 3 + 2) / 3 = k by omega, if_pos (by omega)]
    · rw [if_neg e1]
      by_cases e2 : k * 3 + 1 = i
      · subst e2
        rw [if_pos rfl, if_pos (by omega), if_neg (by omega), if_pos (by omega), show (k * 3 + 1) / 3 = k by omega, if_pos (by omega)]
      · rw [if_neg e2]
        by_cases e3 : k * 3 = i
        · subst e3
          rw [if_pos rfl, if_pos (by omega), if_pos (by omega), show k * 3 / 3 = k by omega, if_pos (by omega)]
        · rw [if_neg e3]
          by_cases cc : i / 3 < k
          · have c2 : i / 3 < k + 1 := by omega
            simp only [if_pos cc, if_pos c2]
          · have c2 : ¬ i / 3 < k + 1 := by omega
            simp only [if_neg cc, if_neg c2]
  · rw [List.getElem?_eq_none (by simp [rcl_len, mkR_len]; omega), List.getElem?_eq_none (by simp [rcl_len, mkR_len]; omega)]
theorem mkR_R (c : Nat) (L : List Trm) (k : Nat) (hc : c ≤ 500000000) (hl : L.length ≤ 100000000) (h : ∀ x ∈ L, TrR x) : ∀ x ∈ mkR c L k, TrR x := by
  intro x hx
  obtain ⟨j, hj, rfl⟩ := List.mem_map.1 hx
  rw [List.mem_range] at hj
  by_cases cc : j < k
  · simp only [if_pos cc]
    have := mkX_len (c + 1 + 3 * j) (by omega)
    refine ⟨⟨by show _ ≤ ((c : Int) + 3 * (j : Int)); omega, by show ((c : Int) + 3 * (j : Int)) ≤ _; omega⟩, by show (mkX (c + 1 + 3 * j)).length ≤ _; omega, ⟨by show _ ≤ ((c : Int) + 3 * (j : Int) + 2); omega, by show ((c : Int) + 3 * (j : Int) + 2) ≤ _; omega⟩⟩
  · simp only [if_neg cc]; exact h _ (rk_mem L j hj)
def MarkedR (c : Nat) (w : World) (base : Nat) (T : TypeId) (v : Value) (L : List Trm) (e : Ending) (w' : World) : Prop :=
  e = .returned (.int .i64 ((c : Int) + 3 * (L.length : Int))) ∧ OwnR w' base T v (mkR c L L.length) ∧ w.grownBy w' v.ownBlock
theorem l_markTermS (c : Nat) (v : Value) (base : Nat) (T : TypeId) (L : List Trm) (w : World) (ho : OwnR w base T v L) (hl : L.length ≤ 100000000) (hc1 : 1 ≤ c) (hc2 : c ≤ 500000000) :
    Calls Tryz.prog 35 #[v, .int .i64 c] w (MarkedR c w base T v L) := by
  have HI := Lib.hid ho.2
  obtain ⟨n, hn⟩ : ∃ n, n = L.length := ⟨_, rfl⟩
  have HN := Lib.hid hn
  rcases ho.1.2 with ⟨rfl, h0⟩ | ⟨g, cap, cur, rfl, hb, hg, hnc, hcm, _⟩
  · have e : L = [] := List.length_eq_zero_iff.1 h0
    subst e
    have HO := Lib.hid ho
    clear ho hl hn HN
    go_enter Tryz.func35, Tryz.ntmps35
    go_wp2
    go_loop [1, 5] (fun m i => i = .int .i64 0 ∧ m = .int .i64 c) (fun _ _ => 0)
    case atStart => exact ⟨rfl, rfl⟩
    case round =>
      obtain ⟨rfl, rfl⟩ := hrel
      go_wp2
      go_ret
      exact ⟨by simp, HO.out, ⟨rfl, rfl, rfl, Nat.le_refl _, fun _ _ _ => rfl⟩⟩
  · have O1 : Hid (w.ownsRow base T 3 (.slice (some ⟨g, 0, none⟩) n cap) n (rcl (mkR c L 0))) := Lib.hid (by rw [mkR_0, hn]; exact ho.1)
    have hgl : g < w.heap.size := (ho.lt g rfl).2
    rw [← hn] at hl hnc ⊢
    clear hg ho hb hcm
    unfold MarkedR
    rw [← hn]
    clear hn
    go_enter Tryz.func35, Tryz.ntmps35
    go_wp2
    go_loopw [1, 5] (fun m i wr => ∃ k : Nat, k ≤ n ∧ i = .int .i64 k ∧ m = .int .i64 ((c : Int) + 3 * (k : Int)) ∧ wr.ownsRow base T 3 (.slice (some ⟨g, 0, none⟩) n cap) n (rcl (mkR c L k)) ∧ w.grownBy wr (some g)) (fun _ i _ => n - (intOf i).toNat)
    case atStart => exact ⟨0, by omega, rfl, by simp, O1.out, ⟨rfl, rfl, rfl, Nat.le_refl _, fun _ _ _ => rfl⟩⟩
    case round =>
      obtain ⟨k, hk, rfl, rfl, ho, hg⟩ := hrel
      have HR := Lib.hid ho; have HG := Lib.hid hg
      clear ho hg
      by_cases hlt : k < n
      · have hkL : k < (mkR c L k).length := by rw [mkR_len, ← HN.out]; exact hlt
        have hz : wr.cell? ⟨g, k * 3, none⟩ = some (.int .i64 (rkx (mkR c L k) k)) := by rw [HR.out.cellAt (k * 3) (by omega), rcl_0 _ k hkL]
        have hf : wr.frozen? ⟨g, k * 3, none⟩ = false := HR.out.frozenAt _
        have HZ := Lib.hid (rcl_1 (mkR c L k) k hkL)
        have HZ2 := Lib.hid (rcl_2 (mkR c L k) k hkL)
        generalize rkx (mkR c L k) k = z at hz
        generalize tx (rsx (mkR c L k) k) = z2 at HZ
        generalize rnx (mkR c L k) k = z3 at HZ2
        have S1 := HR.out.stored (k * 3) (.int .i64 ((c : Int) + 3 * (k : Int)))
        have S1A := Lib.hid S1.1; have S1B := Lib.hid S1.2
        have HST : Hid (rcl (mkR c L (k + 1)) = (((rcl (mkR c L k)).set (k * 3) (.int .i64 ((c : Int) + 3 * (k : Int)))).set (k * 3 + 1) (.string (tx (mkX (c + 1 + 3 * k))))).set (k * 3 + 2) (.int .i64 ((c : Int) + 3 * (k : Int) + 2))) := Lib.hid (mkR_set c L k (by rw [← HN.out]; exact hlt)).symm
        have MT := Lib.hid (fun W => l_markText (c + 1 + 3 * k) W (by omega) (by omega))
        obtain ⟨X, hX⟩ : ∃ X, X = tx (mkX (c + 1 + 3 * k)) := ⟨_, rfl⟩
        rw [← hX] at MT HST
        have em : ((c + 1 + 3 * k : Nat) : Int) = (c : Int) + 3 * (k : Int) + 1 := by omega
        rw [em] at MT
        have em2 : (c : Int) + 3 * (k : Int) + 1 + 1 = (c : Int) + 3 * (k : Int) + 2 := by omega
        have EM2 := Lib.hid em2
        have hgw : g < wr.heap.size := Go.Lib.lt_of_cell hz
        clear S1 hkL hX em em2
        go_wp2_with fail
        refine (MT.out _).mono ?_
        rintro e w4 ⟨rfl, hb⟩
        have R4 := Lib.hid (S1A.out.kept (row := none) (grown_of_later hb none) (.inr (fun e => by cases e)))
        have G4 := Lib.hid (grown_trans (grown_trans HG.out S1B.out) (grown_of_later hb (some g)))
        have hz4 : w4.cell? ⟨g, k * 3 + 1, none⟩ = some (.string z2) := by
          rw [R4.out.cellAt (k * 3 + 1) (by omega), List.getElem?_set, if_neg (by omega)]; exact HZ.out
        have hz5 : w4.cell? ⟨g, k * 3 + 2, none⟩ = some (.int .i64 z3) := by
          rw [R4.out.cellAt (k * 3 + 2) (by omega), List.getElem?_set, if_neg (by omega)]; exact HZ2.out
        have hf4 : w4.frozen? ⟨g, k * 3 + 1, none⟩ = false := R4.out.frozenAt _
        have hf5 : w4.frozen? ⟨g, k * 3 + 2, none⟩ = false := R4.out.frozenAt _
        have S4 := R4.out.stored (k * 3 + 1) (.string X)
        have S5 := S4.1.stored (k * 3 + 2) (.int .i64 ((c : Int) + 3 * (k : Int) + 2))
        have S5A := Lib.hid S5.1; have S4B := Lib.hid S4.2; have S5B := Lib.hid S5.2
        clear S4 S5 hb hz hf
        go_wp2_with fail
        go_roundw
        case rel => exact ⟨k + 1, by omega, by go_num, by first | go_num | (congr 1; omega), by first | (rw [HST.out]; exact S5A.out) | (rw [HST.out, ← EM2.out]; rw [← EM2.out] at S5A; exact S5A.out), by first | exact grown_trans (grown_trans G4.out S4B.out) S5B.out | (rw [← EM2.out] at S5B; exact grown_trans (grown_trans G4.out S4B.out) S5B.out)⟩
        case measure => simp [intOf]; omega
      · obtain rfl : k = n := by omega
        go_wp2
        go_ret
        exact ⟨rfl, ⟨by rw [mkR_len, ← HN.out]; exact HR.out, mkR_R c L _ hc2 (by rw [← HN.out]; omega) HI.out⟩, HG.out⟩
theorem l_heldTermS (c : Nat) (v : Value) (base : Nat) (T : TypeId) (L : List Trm) (n : Nat) (w : World) (hn : n = L.length) (ho : OwnR w base T v (mkR c L n)) (hl : n ≤ 100000000) (hc1 : 1 ≤ c) (hc2 : c ≤ 500000000) :
    Calls Tryz.prog 36 #[v, .int .i64 c] w fun e w' => e = .returned (.int .i64 ((c : Int) + 3 * (n : Int))) ∧ Later w w' := by
  obtain ⟨a, cap, rfl, _, hs, _⟩ := ho.trs
  rw [mkR_len, ← hn] at hs ⊢
  have HS := Lib.hid hs
  have HN := Lib.hid hn
  clear hs ho hn
  go_enter Tryz.func36, Tryz.ntmps36
  go_wp2
  go_loopw [1, 5] (fun m i wr => ∃ k : Nat, k ≤ n ∧ i = .int .i64 k ∧ m = .int .i64 ((c : Int) + 3 * (k : Int)) ∧ Later w wr) (fun _ i _ => n - (intOf i).toNat)
  case atStart => exact ⟨0, by omega, rfl, by simp, Later.refl _⟩
  case round =>
    obtain ⟨k, hk, rfl, rfl, hb⟩ := hrel
    have B3 := Lib.hid hb
    by_cases hlt : k < n
    · obtain ⟨b, off, rfl, hc, hd, he⟩ := (HS.out.later hb).2.2.1 k hlt
      obtain ⟨e1, e2, e3⟩ := mkR_k c L n k (by rw [← HN.out]; exact hlt) hlt
      rw [e1] at hc; rw [e2] at hd; rw [e3] at he
      have MT := Lib.hid (fun W => l_markText (c + 1 + 3 * k) W (by omega) (by omega))
      obtain ⟨X, hX⟩ : ∃ X, X = tx (mkX (c + 1 + 3 * k)) := ⟨_, rfl⟩
      rw [← hX] at MT hd
      have em : ((c + 1 + 3 * k : Nat) : Int) = (c : Int) + 3 * (k : Int) + 1 := by omega
      rw [em] at MT
      have em2 : (c : Int) + 3 * (k : Int) + 2 = (c : Int) + 3 * (k : Int) + 1 + 1 := by omega
      rw [em2] at he
      have D := Lib.hid hd; have E := Lib.hid he
      have KL : Hid (∀ W', Later wr W' → W'.cell? ⟨b, off + k * 3 + 1, none⟩ = some (.string X) ∧ W'.cell? ⟨b, off + k * 3 + 2, none⟩ = some (.int .i64 ((c : Int) + 3 * (k : Int) + 1 + 1))) := Lib.hid (fun W' q => ⟨by rw [q.cell (p := ⟨b, off + k * 3 + 1, none⟩) (cell_lt D.out)]; exact D.out, by rw [q.cell (p := ⟨b, off + k * 3 + 2, none⟩) (cell_lt E.out)]; exact E.out⟩)
      clear hX em hb e1 e2 e3 em2
      go_wp2_with fail
      go_region_held3 (fun w' => w'.cell? ⟨b, off + k * 3 + 1, none⟩ = some (.string X) ∧ w'.cell? ⟨b, off + k * 3 + 2, none⟩ = some (.int .i64 ((c : Int) + 3 * (k : Int) + 1 + 1))) (exact KL.out _ (by repeat (first | (with_reducible exact Later.refl _) | (with_reducible exact Hid.out (by assumption)) | (with_reducible refine Later.alloc ?_ _) | (with_reducible refine Later.setCell ?_ (by simp; omega) _) | (with_reducible refine Later.setCell ?_ (by simp) _) | (with_reducible refine Later.drewN ?_ _) | (with_reducible refine Later.drew ?_) | (with_reducible refine Later.trans ?_ (Hid.out (by assumption))))))
        (first | (go_at_call 78; refine (MT.out _).mono ?_; rintro e w1 ⟨rfl, hb1⟩; have H1 := Lib.hid hb1; obtain ⟨cX, cN⟩ := KL.out _ (Later.trans (show Later wr _ from (by repeat (first | (with_reducible exact Later.refl _) | (with_reducible exact Hid.out (by assumption)) | (with_reducible refine Later.alloc ?_ _) | (with_reducible refine Later.setCell ?_ (by simp; omega) _) | (with_reducible refine Later.setCell ?_ (by simp) _) | (with_reducible refine Later.drewN ?_ _) | (with_reducible refine Later.drew ?_) | (with_reducible refine Later.trans ?_ (Hid.out (by assumption)))))) hb1); clear hb1))
      all_goals
        go_wp2
        go_roundw
        case rel => exact ⟨k + 1, by omega, by go_num, by first | go_num | (congr 1; omega), (by repeat (first | (with_reducible exact Later.refl _) | (with_reducible exact Hid.out (by assumption)) | (with_reducible refine Later.alloc ?_ _) | (with_reducible refine Later.setCell ?_ (by simp; omega) _) | (with_reducible refine Later.setCell ?_ (by simp) _) | (with_reducible refine Later.drewN ?_ _) | (with_reducible refine Later.drew ?_) | (with_reducible refine Later.trans ?_ (Hid.out (by assumption)))))⟩
        case measure => simp [intOf]; omega
    · obtain rfl : k = n := by omega
      clear hb
      go_wp2
      go_ret
      exact ⟨rfl, B3.out⟩
end Go.Proofs.YtggnhdeldmkdmaaGreatDoor
namespace Go.Proofs.YtggnhdeldmkdmaaGreatDoor
open Go.RowKit Go.Shelf
set_option maxHeartbeats 4000000
set_option maxRecDepth 100000
set_option linter.unusedVariables false
set_option linter.unusedSimpArgs false
theorem peL_len (l : List UInt8) : (peL l).length ≤ 40 := by
  unfold peL
  split
  · rename_i h
    unfold peE at h
    split at h
    · split at h
      · cases h
      · omega
    · omega
  · simp
theorem tx_of (s : ByteArray) : tx s.data.toList = s := by cases s; simp [tx]
theorem walk_FnExactParseExpression (s : ByteArray) (w : World) (hml : s.size ≤ maxLen) (hx : Wst w ∧ Ops w) :
    Calls Tryz.prog 7 #[.string s] w fun e w' => e = .returned (.bool true) ∧ Below w.heap.size w w' := by
  have HW := Lib.hid hx.1
  have HO := Lib.hid hx.2
  clear hx hml
  by_cases hs : 1048576 < s.size
  · have e1 : decide ((1048576 : Int) < s.size) = true := by simp; omega
    go_enter Tryz.func7, Tryz.ntmps7
    go_wp2_with fail
    go_ret
    exact ⟨rfl, by first | exact Later.refl _ | exact (Later.refl _).drew⟩
  · have hs2 : s.size ≤ 1048576 := by omega
    have e1 : decide ((1048576 : Int) < s.size) = false := by simp; omega
    clear hs
    have hs3 : s.data.toList.length ≤ 1048576 := by rw [Array.length_toList]; exact hs2
    have SF := Lib.hid (fun W => s_ParseExpression s.data.toList W hs3)
    have IF := Lib.hid (fun W => i_ParseExpression s.data.toList W hs3)
    rw [tx_of] at SF IF
    have hL8 := peL_len s.data.toList
    unfold ReC at SF IF
    obtain ⟨L, hL⟩ : ∃ x, x = peL s.data.toList := ⟨_, rfl⟩
    obtain ⟨y, hy⟩ : ∃ x, x = peE s.data.toList := ⟨_, rfl⟩
    rw [← hL] at hL8
    rw [← hL, ← hy] at SF IF
    clear hL hy
    obtain ⟨n, hn⟩ : ∃ n, n = L.length := ⟨_, rfl⟩
    have HN := Lib.hid hn
    have hn8 : n ≤ 40 := by omega
    clear hn hL8 hs3
    go_enter Tryz.func7, Tryz.ntmps7
    go_wp2_with fail
    refine (SF.out _).mono ?_
    rintro e w1 ⟨v0, rfl, o0, hb⟩
    have B1 := Lib.hid hb
    obtain ⟨a0, cap0, rfl, _, t0, l0, _, _⟩ := o0.trs
    have T0 := Lib.hid t0
    have L0 : Hid (∀ x, a0 = some x → x.block < w1.heap.size) := Lib.hid (fun x h => (l0 x h).2)
    clear hb o0 t0 l0
    rw [← HN.out] at T0 ⊢
    go_wp2_with fail
    refine (IF.out _ (HW.out.later B1.out) (HO.out.later B1.out)).mono ?_
    rintro e w2 ⟨v1, rfl, o1, hb⟩
    have B2 := Lib.hid (Later.trans B1.out hb)
    have P2 := Lib.hid hb
    have O1 := Lib.hid o1
    obtain ⟨a1, cap1, rfl, _, t1, l1, _, _⟩ := o1.trs
    have T1 := Lib.hid t1
    rw [← HN.out] at O1 T1 ⊢
    clear hb o1 t1
    go_wp2_with fail
    refine (l_eqTermS_same _ _ n cap1 n cap0 L _ T1.out (T0.out.later P2.out)).mono ?_
    rintro e w3 ⟨rfl, hb⟩
    have P3 := Lib.hid (Later.trans P2.out hb)
    have B3 := Lib.hid (Later.trans B2.out hb)
    have O3 := Lib.hid (O1.out.later hb)
    clear hb
    go_wp2_with fail
    refine (l_markTermS 1 _ _ _ L _ O3.out (by rw [← HN.out]; omega) (by omega) (by omega)).mono ?_
    rintro e w4 ⟨rfl, ho, hg⟩
    rw [← HN.out] at ho ⊢
    have O4 := Lib.hid ho
    have B4 : Hid (Later w w4) := Lib.hid (Below.grown B3.out hg (by have := B3.out.size; omega) (fun j hj => by have h1 := (O3.out.lt j hj).1; have h2 := B1.out.size; omega))
    have T4 : Hid (Trs w4 a0 n L) := Lib.hid ((T0.out.later P3.out).kept hg (fun x h e => by
      have h1 := (O3.out.lt x.block e).1
      have h2 := L0.out x h
      omega))
    clear ho hg
    go_wp2_with fail
    refine (l_heldTermS 1 _ _ _ L n _ HN.out O4.out (by omega) (by omega) (by omega)).mono ?_
    rintro e w5 ⟨rfl, hb⟩
    have B5 := Lib.hid (Later.trans B4.out hb)
    have O5 := Lib.hid (O4.out.later hb)
    have T5 := Lib.hid (T4.out.later hb)
    clear hb
    go_wp2_with fail
    refine (IF.out _ (HW.out.later B5.out) (HO.out.later B5.out)).mono ?_
    rintro e w6 ⟨v2, rfl, o2, hb⟩
    have B6 := Lib.hid (Later.trans B5.out hb)
    have O6 := Lib.hid (O5.out.later hb)
    have T6 := Lib.hid (T5.out.later hb)
    obtain ⟨a2, cap2, rfl, _, t2, l2, _, _⟩ := o2.trs
    have T2 := Lib.hid t2
    rw [← HN.out] at T2 ⊢
    clear hb o2 t2
    go_wp2_with fail
    refine (l_eqTermS_same _ _ n cap2 n cap0 L _ T2.out T6.out).mono ?_
    rintro e w7 ⟨rfl, hb⟩
    have B7 := Lib.hid (Later.trans B6.out hb)
    have O7 := Lib.hid (O6.out.later hb)
    clear hb
    go_wp2_with fail
    refine (l_heldTermS 1 _ _ _ L n _ HN.out O7.out (by omega) (by omega) (by omega)).mono ?_
    rintro e w8 ⟨rfl, hb⟩
    have B8 := Lib.hid (Later.trans B7.out hb)
    clear hb
    go_wp2_with fail
    go_ret
    exact ⟨rfl, B8.out⟩
end Go.Proofs.YtggnhdeldmkdmaaGreatDoor
