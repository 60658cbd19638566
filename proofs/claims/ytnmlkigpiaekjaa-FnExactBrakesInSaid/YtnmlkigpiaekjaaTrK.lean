/- Contracts of chapter 9: sets of brakes (arrays of 24 bools), of the program. -/
import Derived.Test.YtnmlkigpiaekjaaTrM
import Derived.Test.YtnmlkigpiaekjaaSg1
import Derived.Test.YtnmlkigpiaekjaaEnN
import Derived.Test.YtnmlkigpiaekjaaHeld
import Derived.Deep.MidRow
import Derived.Deep.Cut
import Derived.Deep.RegionHeld3
namespace Go.Proofs.Ytnmlkigpiaekjaa
open Go.RowKit
set_option maxHeartbeats 4000000
set_option linter.unusedVariables false
set_option linter.unusedSimpArgs false
/-- a set of brakes as a list of cells -/
def setL (s : Nat → Bool) : List Value := (List.range 24).map fun j => .bool (s j)
theorem setL_len (s : Nat → Bool) : (setL s).length = 24 := by simp [setL]
theorem setA_len (s : Nat → Bool) : (setL s).toArray.size = 24 := by rw [List.size_toArray, setL_len]
theorem setL_get (s : Nat → Bool) {j : Nat} (h : j < 24) : (setL s)[j]? = some (.bool (s j)) := by simp [setL, h]
theorem setL_got {s : Nat → Bool} {j : Nat} {v : Value} (h : (setL s)[j]? = some v) : j < 24 ∧ v = .bool (s j) := by
  have hj : j < 24 := by
    have := (List.getElem?_eq_some_iff.1 h).1
    rwa [setL_len] at this
  rw [setL_get s hj] at h
  cases h
  exact ⟨hj, rfl⟩
theorem fr_range {W : World} {b : Nat} {l : List Value} (h : Fr b l W) : W.rangeAt b 0 l := fun j v hv => by
  rw [Nat.zero_add]; exact (h.2 j v hv).1
theorem fr_there {W : World} {b n : Nat} {l : List Value} (h : Fr b l W) (hn : l.length = n) : W.there b 0 n := fun j hj => by
  obtain ⟨h1, h2⟩ := h.2 j _ (List.getElem?_eq_getElem (by omega))
  rw [Nat.zero_add]
  exact ⟨by rw [h1]; rfl, h2⟩
theorem set_cell {W : World} {b : Nat} {s : Nat → Bool} (h : Fr b (setL s) W) {j : Nat} (hj : j < 24) : W.cell? ⟨b, j, none⟩ = some (.bool (s j)) ∧ W.frozen? ⟨b, j, none⟩ = false := h.2 j _ (setL_get s hj)
theorem size_setCells (b : Nat) : ∀ (vs : List Value) (o : Nat) (w : World), (w.setCells b o vs).heap.size = w.heap.size
  | [], _, _ => rfl
  | v :: r, o, w => by rw [World.setCells, size_setCells b r, World.size_setCell]
theorem below_setCells {N : Nat} {w : World} (b : Nat) (hb : N ≤ b) : ∀ (vs : List Value) (o : Nat) (w' : World), Below N w w' → Below N w (w'.setCells b o vs)
  | [], _, _, h => h
  | v :: r, o, w', h => by
    rw [World.setCells]
    exact below_setCells b hb r _ _ (Below.setCell h (p := ⟨b, o, none⟩) hb v)
theorem later_setCells {w w' : World} (h : Later w w') {b : Nat} (hb : w.heap.size ≤ b) (vs : List Value) (o : Nat) : Later w (w'.setCells b o vs) := below_setCells b hb vs o w' h
theorem fr_stored {W : World} {b : Nat} {l t : List Value} (h : Fr b l W) (hl : l.length = t.length) : Fr b t (W.setCells b 0 t) := by
  refine ⟨by rw [size_setCells]; exact h.1, fun j v hv => ?_⟩
  have hj : j < l.length := by rw [hl]; exact (List.getElem?_eq_some_iff.1 hv).1
  refine ⟨?_, by rw [World.frozen?_setCells]; exact (h.2 j _ (List.getElem?_eq_getElem hj)).2⟩
  have := World.rangeAt_setCells_same W b 0 t (fr_there h hl) j _ hv
  rwa [Nat.zero_add] at this
theorem fr_apart {W : World} {b b' : Nat} {l : List Value} (h : Fr b' l W) (hne : b' ≠ b) (vs : List Value) (o : Nat) : Fr b' l (W.setCells b o vs) := by
  refine ⟨by rw [size_setCells]; exact h.1, fun j v hv => ?_⟩
  rw [World.frozen?_setCells, World.cell?_setCells_out b vs o W ⟨b', j, none⟩ (fun hb _ => absurd hb hne)]
  exact h.2 j v hv
theorem set_info : (Try.prog.info? 104).map (·.size) = some 24 := by kernel_rfl
set_option maxRecDepth 100000 in
theorem set_load {W : World} {b : Nat} {l : List Value} (h : Fr b l W) (hl : l.length = 24) : (Instr.loadAt 104 (.pointer (some ⟨b, 0, none⟩))).run Try.prog W = .ok (.agg l.toArray) W :=
  run_loadAt_mid W b 0 _ l _ (fr_range h) Try.underlying104 rfl (by rw [hl]; exact set_info)
theorem set_loadVar {W : World} {b : Nat} {l : List Value} (h : Fr b l W) (hl : l.length = 24) : (loadVar 104 ⟨b, 0, none⟩).run Try.prog W = .ok (.agg l.toArray) W :=
  run_loadVar_mid W b 0 _ l _ (fr_range h) Try.underlying104 rfl (by rw [hl]; exact set_info)
theorem set_ones (t : Nat → Bool) : (setL t).toArray.all (·.oneCell') = true := all_oneCell_toArray fun v hv => by
  simp only [setL, List.mem_map] at hv
  obtain ⟨j, _, rfl⟩ := hv
  rfl
theorem set_store {W : World} {b : Nat} {l t : List Value} (h : Fr b l W) (hl : l.length = 24) (ht : t.length = 24) (h1 : t.toArray.all (·.oneCell') = true) : (Instr.storeAt 104 (.pointer (some ⟨b, 0, none⟩)) (.agg t.toArray)).run Try.prog W = .ok () (W.setCells b 0 t) :=
  run_storeAt_mid W b 0 _ t.toArray (fr_there h (by rw [List.size_toArray, hl, ht])) (by rw [List.size_toArray, ht]; exact set_info) h1
theorem lt24 {j : Nat} (h : j < 24) : j = 0 ∨ j = 1 ∨ j = 2 ∨ j = 3 ∨ j = 4 ∨ j = 5 ∨ j = 6 ∨ j = 7 ∨ j = 8 ∨ j = 9 ∨ j = 10 ∨ j = 11 ∨ j = 12 ∨ j = 13 ∨ j = 14 ∨ j = 15 ∨ j = 16 ∨ j = 17 ∨ j = 18 ∨ j = 19 ∨ j = 20 ∨ j = 21 ∨ j = 22 ∨ j = 23 := by omega
theorem set_index (s : Nat → Bool) (k : Nat) (h : k < 24) (W : World) : (Instr.index 104 (.agg (setL s).toArray) (.int .i64 (k : Int))).run Try.prog W = .ok (.bool (s k)) W := by
  rcases lt24 h with rfl | rfl | rfl | rfl | rfl | rfl | rfl | rfl | rfl | rfl | rfl | rfl | rfl | rfl | rfl | rfl | rfl | rfl | rfl | rfl | rfl | rfl | rfl | rfl <;> kernel_rfl
theorem set_box (s : Nat → Bool) (w : World) : Fr w.heap.size (setL s) (w.alloc (.cells (setL s).toArray 104)) := fr_alloc (Later.refl _)
set_option maxRecDepth 100000 in
theorem i_list (s : Nat → Bool) (w : World) :
    Calls Try.prog 69 #[.agg (setL s).toArray] w fun e w' => ∃ v, e = .returned v ∧ Own w' w.heap.size v (lsK s 24) ∧ Later w w' := by
  have hbx := Lib.hid (set_box s w)
  go_enter Try.func69, Try.ntmps69
  go_wp2_with (refine wpList_load_mid rfl _ _ rfl w.heap.size 0 (by rfl) (setL s) _ (fr_range hbx.out) Try.underlying104 rfl (by rw [setL_len]; exact set_info) ?_)
  refine into (fun W => Later w W) (by repeat (first | (with_reducible exact Later.refl _) | (with_reducible exact Hid.out (by assumption)) | (with_reducible refine Later.alloc ?_ _) | (with_reducible refine Later.setCell ?_ (by simp; omega) _) | (with_reducible refine Later.setCell ?_ (by simp) _) | (with_reducible refine Later.drewN ?_ _) | (with_reducible refine Later.drew ?_) | (with_reducible refine Later.trans ?_ (Hid.out (by assumption))))) ?_
  intro W0 hW0
  have HW0 := Lib.hid hW0
  clear hW0 hbx
  have HXX := fun k (h : k < 24) W => set_index s k h W
  generalize hX : Value.agg (setL s).toArray = X at *
  clear hX
  go_loopw [3, 7] (fun v i wr => ∃ k : Nat, k ≤ 24 ∧ i = .int .i64 k ∧ Own wr w.heap.size v (lsK s k) ∧ Later w wr) (fun _ i _ => 24 - (intOf i).toNat)
  case atStart => exact ⟨0, by omega, rfl, own_none0 _ _, HW0.out⟩
  case round =>
    obtain ⟨k, hk, rfl, ho, hlw⟩ := hrel
    have HO := Lib.hid ho; have HW := Lib.hid hlw
    have hsz := hlw.size
    clear ho hlw
    by_cases hlt : k < 24
    · have HX := fun W => HXX k hlt W
      clear HXX
      cases hv : s k
      · rw [hv] at HX
        have HL : Hid (lsK s (k + 1) = lsK s k) := Lib.hid (by show (if s k = true then _ else _) = _; rw [hv]; rfl)
        clear hv
        go_wp2_with fail
        go_roundw
        case rel => exact ⟨k + 1, by omega, by go_num, by rw [HL.out]; exact own_lat HO.out (by repeat (first | (with_reducible exact Later.refl _) | (with_reducible exact Hid.out (by assumption)) | (with_reducible refine Later.alloc ?_ _) | (with_reducible refine Later.setCell ?_ (by simp; omega) _) | (with_reducible refine Later.setCell ?_ (by simp) _) | (with_reducible refine Later.drewN ?_ _) | (with_reducible refine Later.drew ?_) | (with_reducible refine Later.trans ?_ (Hid.out (by assumption))))), (by repeat (first | (with_reducible exact Later.refl _) | (with_reducible exact Hid.out (by assumption)) | (with_reducible refine Later.alloc ?_ _) | (with_reducible refine Later.setCell ?_ (by simp; omega) _) | (with_reducible refine Later.setCell ?_ (by simp) _) | (with_reducible refine Later.drewN ?_ _) | (with_reducible refine Later.drew ?_) | (with_reducible refine Later.trans ?_ (Hid.out (by assumption)))))⟩
        case measure => simp [intOf]; omega
      · rw [hv] at HX
        have HL : Hid (lsK s (k + 1) = lsK s k ++ [(k : Int)]) := Lib.hid (by show (if s k = true then _ else _) = _; rw [hv]; rfl)
        have hln := lsK_len s k
        clear hv
        go_wp2_with (at_builtin; go_must (refine app1 rfl _ _ rfl w.heap.size _ _ _ _ _ HO.out rfl rfl ⟨by omega, by omega⟩ (by omega) (by omega) ?_; intro v' w4 ho4 hg4; have O4 := Lib.hid ho4; have G4 := Lib.hid hg4; clear ho4 hg4))
        have H4 : Hid (Later w w4) := Lib.hid (Below.grown (show Later w _ from (by repeat (first | (with_reducible exact Later.refl _) | (with_reducible exact Hid.out (by assumption)) | (with_reducible refine Later.alloc ?_ _) | (with_reducible refine Later.setCell ?_ (by simp; omega) _) | (with_reducible refine Later.setCell ?_ (by simp) _) | (with_reducible refine Later.drewN ?_ _) | (with_reducible refine Later.drew ?_) | (with_reducible refine Later.trans ?_ (Hid.out (by assumption)))))) G4.out (by first | omega | (simp; omega)) (fun j e => by have := (HO.out.lt j e).1; omega))
        go_roundw
        case rel => exact ⟨k + 1, by omega, by go_num, by rw [HL.out]; exact O4.out, H4.out⟩
        case measure => simp [intOf]; omega
    · obtain rfl : k = 24 := by omega
      clear HXX
      go_wp2_with fail
      refine bodyPost_ret (by simp [results, Try.results69, go_sem]) rfl ⟨_, rfl, HO.out, HW.out⟩
theorem with_boxes (A Z : List Value) (x : Sg) (w : World) : (fun W => Fr w.heap.size A W ∧ W.cell? ⟨w.heap.size + 1, 0, none⟩ = some (.int .i64 x.k) ∧ Fr (w.heap.size + 1 + 1) Z W ∧ Later w W)
    (((w.alloc (.cells A.toArray 104)).alloc (.cells [Value.int .i64 x.k, .int .i64 x.l, .int .i64 x.r, .int .i64 x.a, .int .i64 x.b, .int .i64 x.c, .int .i64 x.d].toArray 77)).alloc (.cells Z.toArray 104)) := by
  have F1 := fr_alloc (X := w) (l := A) (T := 104) (Later.refl _)
  have F2 := fr_alloc (X := w.alloc (.cells A.toArray 104)) (l := [.int .i64 x.k, .int .i64 x.l, .int .i64 x.r, .int .i64 x.a, .int .i64 x.b, .int .i64 x.c, .int .i64 x.d]) (T := 77) (Later.refl _)
  have F3 := fr_alloc (X := (w.alloc (.cells A.toArray 104)).alloc (.cells [Value.int .i64 x.k, .int .i64 x.l, .int .i64 x.r, .int .i64 x.a, .int .i64 x.b, .int .i64 x.c, .int .i64 x.d].toArray 77)) (l := Z) (T := 104) (Later.refl _)
  simp only [World.size_alloc] at F2 F3
  refine ⟨fr_later F1 (((Later.refl _).alloc _).alloc _), ?_, F3, (by repeat (first | (with_reducible exact Later.refl _) | (with_reducible exact Hid.out (by assumption)) | (with_reducible refine Later.alloc ?_ _) | (with_reducible refine Later.setCell ?_ (by simp; omega) _) | (with_reducible refine Later.setCell ?_ (by simp) _) | (with_reducible refine Later.drewN ?_ _) | (with_reducible refine Later.drew ?_) | (with_reducible refine Later.trans ?_ (Hid.out (by assumption)))))⟩
  exact ((fr_later F2 ((Later.refl _).alloc _)).2 0 _ rfl).1
set_option maxRecDepth 100000 in
theorem i_withL (A T : List Value) (r : Nat) (x : Sg) (w : World) (hr : r < 24) (hAl : A.length = 24) (hTl : T.length = 24) (hTo : T.toArray.all (·.oneCell') = true) (hb : x.k = 3 ∧ T = A.set r (.bool true) ∨ x.k ≠ 3 ∧ T = A) :
    Calls Try.prog 67 #[.agg A.toArray, .int .i64 r, .agg #[.int .i64 x.k, .int .i64 x.l, .int .i64 x.r, .int .i64 x.a, .int .i64 x.b, .int .i64 x.c, .int .i64 x.d]] w fun e w' => e = .returned (.agg T.toArray) ∧ Later w w' := by
  have hTa : T.toArray.size = 24 := by rw [List.size_toArray, hTl]
  rcases hb with ⟨hb, hT⟩ | ⟨hb, rfl⟩
  · have HB : Hid ((x.k == 3) = true) := Lib.hid (by simpa using hb)
    have HT := Lib.hid hT
    clear hb hT
    go_enter Try.func67, Try.ntmps67
    go_upto_region 1 with (fail)
    refine into (fun W => Fr w.heap.size A W ∧ W.cell? ⟨w.heap.size + 1, 0, none⟩ = some (.int .i64 x.k) ∧ Fr (w.heap.size + 1 + 1) (List.replicate 24 (.bool false)) W ∧ Later w W) (with_boxes A (List.replicate 24 (.bool false)) x w) ?_
    generalize hZ : List.replicate 24 (Value.bool false) = Z
    have hZl : Z.length = 24 := by rw [← hZ, List.length_replicate]
    clear hZ
    rintro W ⟨h1, hk, h3, hW⟩
    have F1 := Lib.hid h1; have F3 := Lib.hid h3; have HW := Lib.hid hW
    have hz := h3.lt
    have hk3 := HB.out
    obtain ⟨c1, f1⟩ := h1.2 r _ (List.getElem?_eq_getElem (by omega))
    generalize A[r] = u at c1
    clear h1 h3 hW
    go_upto_region 3 with (fail)
    refine into (fun W' => Fr w.heap.size T W' ∧ Fr (w.heap.size + 1 + 1) Z W' ∧ Later w W') ⟨by rw [HT.out]; exact fr_set F1.out r _, fr_far F3.out _ _ (by simp <;> omega), (by repeat (first | (with_reducible exact Later.refl _) | (with_reducible exact Hid.out (by assumption)) | (with_reducible refine Later.alloc ?_ _) | (with_reducible refine Later.setCell ?_ (by simp; omega) _) | (with_reducible refine Later.setCell ?_ (by simp) _) | (with_reducible refine Later.drewN ?_ _) | (with_reducible refine Later.drew ?_) | (with_reducible refine Later.trans ?_ (Hid.out (by assumption)))))⟩ ?_
    rintro W2 ⟨g1, g3, hW2⟩
    have G1 := Lib.hid g1; have G3 := Lib.hid g3; have HW2 := Lib.hid hW2
    clear F1 F3 HW g1 g3 hW2 c1 f1 hk
    go_wp2_with (refine wpList_load_mid rfl _ _ rfl w.heap.size 0 (by rfl) T _ (fr_range G1.out) Try.underlying104 rfl (by rw [hTl]; exact set_info) ?_; refine wpList_store_mid rfl _ _ _ rfl (w.heap.size + 1 + 1) 0 T.toArray (by rfl) (by rfl) (fr_there G3.out (by rw [hZl, hTa])) (by rw [hTa]; exact set_info) hTo ?_)
    have g5 := Lib.hid (fr_stored G3.out (t := T) (by rw [hZl, hTl]))
    have l5 := Lib.hid (later_setCells HW2.out (show w.heap.size ≤ w.heap.size + 1 + 1 by omega) T 0)
    have hld := set_loadVar g5.out hTl
    refine bodyPost_ret (v := .agg T.toArray) ?_ rfl ⟨rfl, l5.out⟩
    simp [results, Try.results67, Act.put, Act.eval, asAddr, Result.andThen, hld]
  · have HB : Hid ((x.k == 3) = false) := Lib.hid (by simpa using hb)
    clear hb
    go_enter Try.func67, Try.ntmps67
    go_upto_region 1 with (fail)
    refine into (fun W => Fr w.heap.size T W ∧ W.cell? ⟨w.heap.size + 1, 0, none⟩ = some (.int .i64 x.k) ∧ Fr (w.heap.size + 1 + 1) (List.replicate 24 (.bool false)) W ∧ Later w W) (with_boxes T (List.replicate 24 (.bool false)) x w) ?_
    generalize hZ : List.replicate 24 (Value.bool false) = Z
    have hZl : Z.length = 24 := by rw [← hZ, List.length_replicate]
    clear hZ
    rintro W ⟨h1, hk, h3, hW⟩
    have F1 := Lib.hid h1; have F3 := Lib.hid h3; have HW := Lib.hid hW
    have hz := h3.lt
    have hk3 := HB.out
    have G1 := F1; have G3 := F3; have HW2 := HW
    clear h1 h3 hW F1 F3 HW
    go_wp2_with (refine wpList_load_mid rfl _ _ rfl w.heap.size 0 (by rfl) T _ (fr_range G1.out) Try.underlying104 rfl (by rw [hTl]; exact set_info) ?_; refine wpList_store_mid rfl _ _ _ rfl (w.heap.size + 1 + 1) 0 T.toArray (by rfl) (by rfl) (fr_there G3.out (by rw [hZl, hTa])) (by rw [hTa]; exact set_info) hTo ?_)
    have g5 := Lib.hid (fr_stored G3.out (t := T) (by rw [hZl, hTl]))
    have l5 := Lib.hid (later_setCells HW2.out (show w.heap.size ≤ w.heap.size + 1 + 1 by omega) T 0)
    have hld := set_loadVar g5.out hTl
    refine bodyPost_ret (v := .agg T.toArray) ?_ rfl ⟨rfl, l5.out⟩
    simp [results, Try.results67, Act.put, Act.eval, asAddr, Result.andThen, hld]
theorem setL_upd (s : Nat → Bool) (r : Nat) (hr : r < 24) : setL (updB s r) = (setL s).set r (.bool true) := by
  apply List.ext_getElem?
  intro j
  rw [List.getElem?_set]
  by_cases hj : j < 24
  · by_cases e : r = j
    · subst e
      rw [if_pos rfl, if_pos (by rw [setL_len]; exact hj), setL_get _ hj, updB_at]
    · rw [if_neg e, setL_get _ hj, setL_get _ hj, updB_ne _ _ _ (fun h => e h.symm)]
  · rw [if_neg (by omega), List.getElem?_eq_none (by rw [setL_len]; omega), List.getElem?_eq_none (by rw [setL_len]; omega)]
theorem i_with (s : Nat → Bool) (r : Nat) (x : Sg) (w : World) (hr : r < 24) :
    Calls Try.prog 67 #[.agg (setL s).toArray, .int .i64 r, .agg #[.int .i64 x.k, .int .i64 x.l, .int .i64 x.r, .int .i64 x.a, .int .i64 x.b, .int .i64 x.c, .int .i64 x.d]] w fun e w' => e = .returned (.agg (setL (if x.k = 3 then updB s r else s)).toArray) ∧ Later w w' := by
  refine i_withL _ _ r x w hr (setL_len _) (setL_len _) (set_ones _) ?_
  by_cases h : x.k = 3
  · exact .inl ⟨h, by rw [if_pos h, setL_upd _ _ hr]⟩
  · exact .inr ⟨h, by rw [if_neg h]⟩
end Go.Proofs.Ytnmlkigpiaekjaa
