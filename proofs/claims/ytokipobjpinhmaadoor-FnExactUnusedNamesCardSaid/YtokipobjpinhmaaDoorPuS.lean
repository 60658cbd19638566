/- Sets of names, of the program: made, asked, counted. -/
import Derived.Test.YtokipobjpinhmaaDoorPuN
import Derived.Test.YtokipobjpinhmaaDoorPuT
namespace Go.Proofs.YtokipobjpinhmaaDoor
open Go.RowKit Go.Shelf Go.Maps
set_option maxHeartbeats 4000000
set_option maxRecDepth 100000
set_option linter.unusedVariables false
set_option linter.unusedSimpArgs false
abbrev TM := 86
/-- 'block b is a map of at most k entries whose keys are the names of S' -/
def NSk (w : World) (b k : Nat) (S : List (List UInt8)) : Prop := w.ownsMap (H := Unit) Tryd.prog 9 (plainElem Tryd.prog 4) b k (nsD S)
def NSet (w : World) (b : Nat) (S : List (List UInt8)) : Prop := ∃ k, NSk w b k S
theorem NSk.later {w w' : World} {b k : Nat} {S : List (List UInt8)} (h : NSk w b k S) (hb : Later w w') : NSk w' b k S :=
  World.ownsMap.kept (row := none) h ⟨hb.os, hb.tape, hb.output, hb.size, fun i hi _ => hb.block i hi⟩ (by simp)
theorem NSet.later {w w' : World} {b : Nat} {S : List (List UInt8)} (h : NSet w b S) (hb : Later w w') : NSet w' b S := by
  obtain ⟨k, h⟩ := h
  exact ⟨k, h.later hb⟩
theorem keyN (x : List UInt8) (h : x.length ≤ 1048576) : keyOf Tryd.prog 9 (.string (tx x)) = some (.string x) :=
  Go.WideMaps.keyOf_string_mk Tryd.underlying9 (by rw [tx_size]; unfold maxLen; omega)
theorem lawN : Keyed Tryd.prog 9 := string_keyed Tryd.underlying9
theorem zeroB (w : World) : (zeroValue 4).run Tryd.prog w = .ok (.bool false) w := by kernel_rfl
def qn (Q : List (List (List UInt8))) (j : Nat) : List (List UInt8) := Q.getD j []
theorem qn_take (Q : List (List (List UInt8))) (k : Nat) (h : k < Q.length) : (Q.take (k + 1)).flatten = (Q.take k).flatten ++ qn Q k := by
  unfold qn
  rw [List.take_succ_eq_append_getElem h, List.flatten_append, List.getD_eq_getElem?_getD, List.getElem?_eq_getElem h]; simp
/-- 'the slice value (a, m, ..) of slices of names reads as Q' -/
def Nms (w : World) (a : Option Addr) (m : Nat) (Q : List (List (List UInt8))) : Prop :=
  Q.length = m ∧ ∀ j, j < m → ∃ b off ta n tc, a = some ⟨b, off, none⟩ ∧ w.cell? ⟨b, off + j, none⟩ = some (.slice ta n tc) ∧ Sts w ta n (qn Q j)
theorem Nms.later {w w' : World} {a : Option Addr} {m : Nat} {Q : List (List (List UInt8))} (h : Nms w a m Q) (hb : Later w w') : Nms w' a m Q := by
  refine ⟨h.1, fun j hj => ?_⟩
  obtain ⟨b, off, ta, n, tc, rfl, hc, hs⟩ := h.2 j hj
  exact ⟨b, off, ta, n, tc, rfl, by rw [hb.cell (p := ⟨b, off + j, none⟩) (cell_lt hc)]; exact hc, hs.later hb⟩
theorem take_wx (W : List (List UInt8)) (j : Nat) (h : j < W.length) : W.take (j + 1) = W.take j ++ [wx W j] := by
  rw [List.take_succ_eq_append_getElem h, wx_at W j h]
/-- a new set of names, handed back -/
def RetN (w : World) (S : List (List UInt8)) (e : Ending) (w' : World) : Prop := ∃ b, e = .returned (.map (some b)) ∧ NSet w' b S ∧ Later w w'
theorem i_nameSetOf (a : Option Addr) (m cap : Nat) (Q : List (List (List UInt8))) (w : World) (hq : Nms w a m Q) (hm : m ≤ 10) (hl : ∀ j, j < m → (qn Q j).length ≤ 1048576) (ht : ∀ k, (Q.take k).flatten.length ≤ 100000000) :
    Calls Tryd.prog 76 #[.slice a m cap] w (RetN w Q.flatten) := by
  have HQ := Lib.hid hq
  have HN := Lib.hid hq.1
  have HT := Lib.hid ht
  have HL := Lib.hid hl
  have HF : Hid ((Q.take m).flatten = Q.flatten) := Lib.hid (by rw [List.take_of_length_le (by rw [HN.out]; exact Nat.le_refl _)])
  have M0 : Hid (NSk (w.alloc (.map #[] 0)) w.heap.size 0 []) := Lib.hid (World.ownsMap_made w Tryd.prog 9 _)
  have A0 : Hid (Later w (w.alloc (.map #[] 0))) := Lib.hid ((Later.refl _).alloc _)
  have hmm := @run_makeMap Tryd.prog
  clear hq hl ht
  go_enter Tryd.func76, Tryd.ntmps76
  go_wp2_with fail
  generalize w.alloc (.map #[] 0) = W0 at M0 A0 ⊢
  clear hmm
  go_loopw [11] (fun i wr => ∃ k : Nat, k ≤ m ∧ i = .int .i64 k ∧ NSk wr w.heap.size (Q.take k).flatten.length (Q.take k).flatten ∧ Later w wr) (fun i _ => m - (intOf i).toNat)
  case atStart => exact ⟨0, by omega, rfl, M0.out, A0.out⟩
  case round =>
    obtain ⟨k, hk, rfl, ho, hb⟩ := hrel
    have B3 := Lib.hid hb
    have O3 := Lib.hid ho
    clear ho
    by_cases hlt : k < m
    · obtain ⟨b, off, ta, n, tc, rfl, c00, hs⟩ := HQ.out.2 k hlt
      have c0 : wr.cell? ⟨b, off + k, none⟩ = some (.slice ta n tc) := by rw [hb.cell (p := ⟨b, off + k, none⟩) (cell_lt c00)]; exact c00
      clear c00
      have HS := Lib.hid hs
      have HE := Lib.hid (qn_take Q k (by rw [HN.out]; exact hlt))
      have h1 := HT.out k
      have h2 := HL.out k hlt
      have h3 := hs.1
      rw [h3] at h2
      generalize (Q.take k).flatten = S0 at *
      generalize qn Q k = R at *
      have HR := Lib.hid h3
      clear hs hb h3
      go_wp2_with fail
      go_loopw [17] (fun i w5 => ∃ j : Nat, j ≤ n ∧ i = .int .i64 j ∧ NSk w5 w.heap.size (S0.length + j) (S0 ++ R.take j) ∧ Later w w5) (fun i _ => n - (intOf i).toNat)
      case atStart => exact ⟨0, by omega, rfl, by simpa using O3.out, B3.out⟩
      case round =>
        obtain ⟨j, hj, rfl, ho, hd⟩ := hrel
        have B5 := Lib.hid hd
        have O5 := Lib.hid ho
        clear ho
        by_cases hlt2 : j < n
        · obtain ⟨b2, off2, rfl, c1⟩ := (HS.out.later hd).at j hlt2
          have hkey := keyN (wx R j) (HS.out.len j hlt2)
          have HE2 := Lib.hid (take_wx R j (by rw [HR.out]; exact hlt2))
          obtain ⟨x, hx⟩ : ∃ x, x = wx R j := ⟨_, rfl⟩
          rw [← hx] at c1 hkey HE2
          obtain ⟨X, hX⟩ : ∃ X, X = tx x := ⟨_, rfl⟩
          rw [← hX] at c1 hkey
          have HC : Hid (S0.length + j < maxLen) := Lib.hid (by unfold maxLen; omega)
          clear hx hX hd
          go_wp2_with (at_mapUpdate; go_must (refine wpList_mapUpdate_own _ rfl _ _ _ TM rfl 9 4 lawN Tryd.underlying86 _ w.heap.size (S0.length + j) _ rfl O5.out HC.out _ _ _ rfl rfl hkey _ [] (plainElem_bool Tryd.underlying4 true) ?_; intro w6 hown1 hgrow1))
          have O6 : Hid (NSk w6 w.heap.size (S0.length + (j + 1)) (S0 ++ R.take (j + 1))) := Lib.hid (by
            rw [HE2.out, ← List.append_assoc]
            unfold NSk
            rw [nsD_snoc, ← Nat.add_assoc]; exact hown1)
          have B6 : Hid (Later w w6) := Lib.hid (Below.grown B5.out hgrow1 B5.out.size (fun q hq => by cases hq; exact Nat.le_refl _))
          clear hown1 hgrow1
          go_roundw
          case rel => exact ⟨j + 1, by omega, by go_num, O6.out, B6.out⟩
          case measure => simp [intOf]; omega
        · obtain rfl : j = n := by omega
          have O7 : Hid (NSk wr w.heap.size (S0 ++ R).length (S0 ++ R)) := Lib.hid (by
            have h := O5.out
            rw [List.take_of_length_le (by rw [HR.out]; exact Nat.le_refl _)] at h
            rw [List.length_append, HR.out]; exact h)
          rw [← HE.out] at O7
          clear hd
          go_wp2_with fail
          go_roundw
          case rel => exact ⟨k + 1, by omega, by go_num, O7.out, B5.out⟩
          case measure => simp [intOf]; omega
    · obtain rfl : k = m := by omega
      clear hb
      go_wp2_with fail
      go_ret
      exact ⟨_, rfl, ⟨_, by rw [← HF.out]; exact O3.out⟩, B3.out⟩
/-- all names of a list are keys -/
def allIn (S W : List (List UInt8)) : Bool := W.all fun x => decide (x ∈ S)
theorem allIn_bad (S W : List (List UInt8)) (j : Nat) (h : j < W.length) (hb : wx W j ∉ S) : allIn S W = false := by
  cases h2 : allIn S W with
  | false => rfl
  | true =>
    have := List.all_eq_true.1 h2 _ (wx_mem W j h)
    simp [hb] at this
theorem allIn_all (S W : List (List UInt8)) (h : ∀ j, j < W.length → wx W j ∈ S) : allIn S W = true := by
  refine List.all_eq_true.2 fun x hx => ?_
  obtain ⟨j, hj, rfl⟩ := List.mem_iff_getElem.1 hx
  rw [wx_at W j hj]
  exact decide_eq_true (h j hj)
theorem i_hasAll (b : Nat) (S : List (List UInt8)) (a : Option Addr) (n cap : Nat) (W : List (List UInt8)) (w : World) (hm : NSet w b S) (hs : Sts w a n W) :
    Calls Tryd.prog 120 #[.map (some b), .slice a n cap] w fun e w' => e = .returned (.bool (allIn S W)) ∧ w = w' := by
  obtain ⟨c, hm⟩ := hm
  have HM := Lib.hid hm
  have HS := Lib.hid hs
  have HL := Lib.hid hs.1
  have hn := hs.2.1
  have AB := Lib.hid (fun j h1 h2 => allIn_bad S W j h1 h2)
  have AA := Lib.hid (allIn_all S W)
  clear hm hs
  go_enter Tryd.func120, Tryd.ntmps120
  go_wp2_with fail
  go_loop [9] (fun i => ∃ k : Nat, k ≤ n ∧ i = .int .i64 k ∧ Hid (∀ j, j < k → wx W j ∈ S)) (fun i => n - (intOf i).toNat)
  case atStart => exact ⟨0, by omega, rfl, Lib.hid (by intro j h; omega)⟩
  case round =>
    obtain ⟨k, hk, rfl, HI⟩ := hrel
    by_cases hlt : k < n
    · obtain ⟨b2, off, rfl, c0⟩ := HS.out.at k hlt
      have hkey := keyN (wx W k) (HS.out.len k hlt)
      have hat := nsD_at (H := Unit) S (wx W k)
      have HB := Lib.hid (AB.out k (by rw [HL.out]; exact hlt))
      obtain ⟨x, hx⟩ : ∃ x, x = wx W k := ⟨_, rfl⟩
      have HX := Lib.hid hx
      rw [← hx] at c0 hkey hat HB
      obtain ⟨X, hX⟩ : ∃ X, X = tx x := ⟨_, rfl⟩
      rw [← hX] at c0 hkey
      clear hx hX
      by_cases he : x ∈ S
      · rw [decide_eq_true he] at hat
        have HE := Lib.hid he
        clear he
        go_wp2_with (at_lookup; go_must (refine wpList_lookup_own_bool _ rfl _ _ TM rfl 9 4 lawN Tryd.underlying86 Tryd.underlying4 (zeroB _) b c _ rfl HM.out _ _ rfl hkey true hat ?_))
        go_roundw
        case rel =>
          refine ⟨k + 1, by omega, by go_num, Lib.hid ?_⟩
          intro q hq
          rcases Nat.lt_or_ge q k with h1 | h1
          · exact HI.out q h1
          · obtain rfl : q = k := by omega
            rw [← HX.out]; exact HE.out
        case measure => simp [intOf]; omega
      · rw [decide_eq_false he] at hat
        have HR := Lib.hid (HB.out he)
        clear he
        go_wp2_with (at_lookup; go_must (refine wpList_lookup_own_bool _ rfl _ _ TM rfl 9 4 lawN Tryd.underlying86 Tryd.underlying4 (zeroB _) b c _ rfl HM.out _ _ rfl hkey false hat ?_))
        all_goals
          go_ret
          exact ⟨by rw [HR.out]; rfl, rfl⟩
    · obtain rfl : k = n := by omega
      have HR := Lib.hid (AA.out (by rw [HL.out]; exact HI.out))
      go_wp2_with fail
      all_goals
        go_ret
        exact ⟨by rw [HR.out]; rfl, rfl⟩
theorem nms_one (w : World) (T : TypeId) (ta : Option Addr) (n tc : Nat) (W : List (List UInt8)) (h : Sts w ta n W) : Nms (w.alloc (.cells #[.slice ta n tc] T)) (some ⟨w.heap.size, 0, none⟩) 1 [W] := by
  refine ⟨rfl, fun j hj => ?_⟩
  obtain rfl : j = 0 := by omega
  exact ⟨w.heap.size, 0, ta, n, tc, rfl, by rw [cell_of_row _ _ 0 _ T (0, 0) (heap_alloc_new w _)]; rfl, h.later ((Later.refl _).alloc _)⟩
theorem nms_two (w : World) (T : TypeId) (a0 a1 : Option Addr) (n0 n1 c0 c1 : Nat) (W0 W1 : List (List UInt8)) (h0 : Sts w a0 n0 W0) (h1 : Sts w a1 n1 W1) : Nms (w.alloc (.cells #[.slice a0 n0 c0, .slice a1 n1 c1] T)) (some ⟨w.heap.size, 0, none⟩) 2 [W0, W1] := by
  have hl : Later w (w.alloc (.cells #[.slice a0 n0 c0, .slice a1 n1 c1] T)) := (Later.refl _).alloc _
  refine ⟨rfl, fun j hj => ?_⟩
  match j, hj with
  | 0, _ => exact ⟨_, 0, a0, n0, c0, rfl, by rw [cell_of_row _ _ 0 _ T (0, 0) (heap_alloc_new w _)]; rfl, h0.later hl⟩
  | 1, _ => exact ⟨_, 0, a1, n1, c1, rfl, by rw [cell_of_row _ _ 1 _ T (0, 0) (heap_alloc_new w _)]; rfl, h1.later hl⟩
theorem nms_three (w : World) (T : TypeId) (a0 a1 a2 : Option Addr) (n0 n1 n2 c0 c1 c2 : Nat) (W0 W1 W2 : List (List UInt8)) (h0 : Sts w a0 n0 W0) (h1 : Sts w a1 n1 W1) (h2 : Sts w a2 n2 W2) : Nms (w.alloc (.cells #[.slice a0 n0 c0, .slice a1 n1 c1, .slice a2 n2 c2] T)) (some ⟨w.heap.size, 0, none⟩) 3 [W0, W1, W2] := by
  have hl : Later w (w.alloc (.cells #[.slice a0 n0 c0, .slice a1 n1 c1, .slice a2 n2 c2] T)) := (Later.refl _).alloc _
  refine ⟨rfl, fun j hj => ?_⟩
  match j, hj with
  | 0, _ => exact ⟨_, 0, a0, n0, c0, rfl, by rw [cell_of_row _ _ 0 _ T (0, 0) (heap_alloc_new w _)]; rfl, h0.later hl⟩
  | 1, _ => exact ⟨_, 0, a1, n1, c1, rfl, by rw [cell_of_row _ _ 1 _ T (0, 0) (heap_alloc_new w _)]; rfl, h1.later hl⟩
  | 2, _ => exact ⟨_, 0, a2, n2, c2, rfl, by rw [cell_of_row _ _ 2 _ T (0, 0) (heap_alloc_new w _)]; rfl, h2.later hl⟩
theorem take_le1 (W0 : List (List UInt8)) (m : Nat) (h : W0.length ≤ m) : ∀ k, (([W0] : List (List (List UInt8))).take k).flatten.length ≤ m
  | 0 => by simp
  | k + 1 => by simp; exact h
theorem take_le2 (W0 W1 : List (List UInt8)) (m : Nat) (h : W0.length + W1.length ≤ m) : ∀ k, (([W0, W1] : List (List (List UInt8))).take k).flatten.length ≤ m
  | 0 => by simp
  | 1 => by simp; omega
  | k + 2 => by simp; omega
theorem take_le3 (W0 W1 W2 : List (List UInt8)) (m : Nat) (h : W0.length + W1.length + W2.length ≤ m) : ∀ k, (([W0, W1, W2] : List (List (List UInt8))).take k).flatten.length ≤ m
  | 0 => by simp
  | 1 => by simp; omega
  | 2 => by simp; omega
  | k + 3 => by simp; omega
theorem nameSet1 (ta : Option Addr) (n tc : Nat) (W : List (List UInt8)) (T : TypeId) (w : World) (hs : Sts w ta n W) (hn : n ≤ 1048576) :
    Calls Tryd.prog 76 #[.slice (some ⟨w.heap.size, 0, none⟩) 1 1] (w.alloc (.cells #[.slice ta n tc] T)) (RetN w W) := by
  refine (i_nameSetOf _ 1 1 [W] _ (nms_one w T ta n tc W hs) (by omega) (fun j hj => ?_) (take_le1 W 100000000 (by rw [hs.1]; omega))).mono ?_
  · obtain rfl : j = 0 := by omega
    show W.length ≤ _
    rw [hs.1]; exact hn
  · rintro e w' ⟨b, rfl, hm, hb⟩
    exact ⟨b, rfl, by simpa using hm, Later.trans ((Later.refl _).alloc _) hb⟩
theorem nameSet2 (a0 a1 : Option Addr) (n0 n1 c0 c1 : Nat) (W0 W1 : List (List UInt8)) (T : TypeId) (w : World) (h0 : Sts w a0 n0 W0) (h1 : Sts w a1 n1 W1) (hn0 : n0 ≤ 1048576) (hn1 : n1 ≤ 1048576) :
    Calls Tryd.prog 76 #[.slice (some ⟨w.heap.size, 0, none⟩) 2 2] (w.alloc (.cells #[.slice a0 n0 c0, .slice a1 n1 c1] T)) (RetN w (W0 ++ W1)) := by
  refine (i_nameSetOf _ 2 2 [W0, W1] _ (nms_two w T a0 a1 n0 n1 c0 c1 W0 W1 h0 h1) (by omega) (fun j hj => ?_) (take_le2 W0 W1 100000000 (by rw [h0.1, h1.1]; omega))).mono ?_
  · match j, hj with
    | 0, _ => show W0.length ≤ _; rw [h0.1]; exact hn0
    | 1, _ => show W1.length ≤ _; rw [h1.1]; exact hn1
  · rintro e w' ⟨b, rfl, hm, hb⟩
    exact ⟨b, rfl, by simpa using hm, Later.trans ((Later.refl _).alloc _) hb⟩
theorem i_areDistinct (a : Option Addr) (n cap : Nat) (W : List (List UInt8)) (w : World) (hs : Sts w a n W) (hn : n ≤ 1048576) :
    Calls Tryd.prog 117 #[.slice a n cap] w fun e w' => e = .returned (.bool (decide W.Nodup)) ∧ Later w w' := by
  have NS := Lib.hid (fun T => nameSet1 a n cap W T w hs hn)
  have HN := Lib.hid (nsD_size (H := Unit) W)
  have HL := Lib.hid hs.1
  clear hs
  go_enter Tryd.func117, Tryd.ntmps117
  go_wp2_with fail
  refine (NS.out _).mono ?_
  rintro e w1 ⟨b, rfl, ⟨c, hm⟩, hb⟩
  have B1 := Lib.hid hb
  have M1 : Hid (w1.ownsMap (H := Unit) Tryd.prog 9 (plainElem Tryd.prog 4) b c (nsD W)) := Lib.hid hm
  obtain ⟨z, hz⟩ : ∃ z, z = size (nsD (H := Unit) W) := ⟨_, rfl⟩
  have hz2 := HN.out
  rw [← hz, HL.out] at hz2
  have HD := Lib.hid hz2.2
  have hz1 := hz2.1
  have HZ := Lib.hid hz
  clear hm hb hz hz2
  go_wp2_with (at_len; refine wpList_len_own _ rfl _ TM rfl 9 4 Tryd.underlying86 _ b c _ rfl M1.out ?_; rw [← HZ.out])
  all_goals
    go_ret
    exact ⟨by rw [← HD.out]; exact ret_b (by by_cases h : z = n <;> simp [h] <;> omega), B1.out⟩
end Go.Proofs.YtokipobjpinhmaaDoor
