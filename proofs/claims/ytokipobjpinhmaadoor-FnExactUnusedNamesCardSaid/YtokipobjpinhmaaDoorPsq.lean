/- The laws' helpers on terms that came in: sizes and copies. -/
import Derived.Test.YtokipobjpinhmaaDoorPsO
import Derived.Test.YtokipobjpinhmaaDoorTkF
import Derived.OwnWalk
namespace Go.Proofs.YtokipobjpinhmaaDoor
open Go.RowKit Go.Shelf
set_option maxHeartbeats 4000000
set_option maxRecDepth 100000
set_option linter.unusedVariables false
set_option linter.unusedSimpArgs false
theorem info_trmQ : (Tryd.prog.info? 84).map (fun i => (i.zero, i.size, i.bytes)) = some (some (.agg #[.int .i64 0, .string ⟨#[]⟩, .int .i64 0]), 3, 32) := by kernel_rfl
theorem l_toTerm (k : Int) (t : List UInt8) (m : Int) (w : World) : Calls Tryd.prog 138 #[.agg #[.int .i64 k, .string (tx t), .int .i64 m]] w fun e w' => e = .returned (.agg #[.int .i64 k, .string (tx t), .int .i64 m]) ∧ Later w w' := by
  obtain ⟨s, hs⟩ : ∃ s, s = tx t := ⟨_, rfl⟩
  rw [← hs]
  clear hs
  go_enter Tryd.func138, Tryd.ntmps138
  go_wp2_with fail
  refine bodyPost_ret (v := .agg #[.int .i64 k, .string s, .int .i64 m]) (by simp [results, Tryd.results138, go_sem, *]) rfl ⟨rfl, ?_⟩
  exact (by repeat (first | (with_reducible exact Later.refl _) | (with_reducible exact Hid.out (by assumption)) | (with_reducible refine Later.setCell ?_ (by simp; omega) _) | (with_reducible refine Later.setCell ?_ (by simp) _) | (with_reducible refine Later.alloc ?_ _) | (with_reducible refine Later.drewN ?_ _) | (with_reducible refine Later.drew ?_)))
theorem l_szTerm (k : Int) (t : List UInt8) (m : Int) (l : Nat) (w : World) (hl : l ≤ 1048576) (ht : t.length ≤ maxLen) : Calls Tryd.prog 137 #[.agg #[.int .i64 k, .string (tx t), .int .i64 m], .int .i64 l] w fun e w' => e = .returned (.int .i64 (if t.length ≤ l then ((l - t.length : Nat) : Int) else -1)) ∧ Later w w' := by
  have hz : (tx t).size = t.length := rfl
  unfold maxLen at ht
  obtain ⟨s, hs⟩ : ∃ s, s = tx t := ⟨_, rfl⟩
  rw [← hs] at hz ⊢
  clear hs
  by_cases h : t.length ≤ l
  · rw [if_pos h]
    have e1 : IntKind.i64.wrap ((l : Int) - (s.size : Int)) = ((l - t.length : Nat) : Int) := by rw [hz, show (l : Int) - (t.length : Int) = ((l - t.length : Nat) : Int) by omega]; exact IntWalk.i64_in _ (by omega)
    obtain ⟨r, hr⟩ : ∃ r, r = l - t.length := ⟨_, rfl⟩
    rw [← hr] at e1 ⊢
    have hr2 : r ≤ 1048576 := by omega
    clear hr hz
    go_enter Tryd.func137, Tryd.ntmps137
    go_wp2_with fail
    go_ret
    exact ⟨rfl, (by repeat (first | (with_reducible exact Later.refl _) | (with_reducible exact Hid.out (by assumption)) | (with_reducible refine Later.alloc ?_ _) | (with_reducible refine Later.setCell ?_ (by simp; omega) _) | (with_reducible refine Later.setCell ?_ (by simp) _) | (with_reducible refine Later.drewN ?_ _) | (with_reducible refine Later.drew ?_) | (with_reducible refine Later.trans ?_ (Hid.out (by assumption)))))⟩
  · rw [if_neg h]
    have e1 : IntKind.i64.wrap ((l : Int) - (s.size : Int)) = -((t.length - l : Nat) : Int) := by rw [hz, show (l : Int) - (t.length : Int) = -((t.length - l : Nat) : Int) by omega]; exact IntWalk.i64_in _ (by omega)
    obtain ⟨r, hr⟩ : ∃ r, r = t.length - l := ⟨_, rfl⟩
    rw [← hr] at e1
    have hr2 : 1 ≤ r := by omega
    have hr3 : decide (-(r : Int) < 0) = true := by simp; omega
    have hr4 : -(r : Int) < 0 := by omega
    clear hr hz
    go_enter Tryd.func137, Tryd.ntmps137
    go_wp2_with fail
    go_ret
    exact ⟨rfl, (by repeat (first | (with_reducible exact Later.refl _) | (with_reducible exact Hid.out (by assumption)) | (with_reducible refine Later.alloc ?_ _) | (with_reducible refine Later.setCell ?_ (by simp; omega) _) | (with_reducible refine Later.setCell ?_ (by simp) _) | (with_reducible refine Later.drewN ?_ _) | (with_reducible refine Later.drew ?_) | (with_reducible refine Later.trans ?_ (Hid.out (by assumption)))))⟩
/-- what szTermS tells: -1, or all names are short -/
def SzR (n : Nat) (L : List Trm) (e : Ending) : Prop := e = .returned (.int .i64 (-1)) ∨ (∃ r : Nat, e = .returned (.int .i64 r) ∧ r ≤ 1048576 ∧ n ≤ 1048576 ∧ ∀ j, j < n → (rsx L j).length ≤ 1048576)
theorem l_szTermS (a : Option Addr) (n cap : Nat) (L : List Trm) (f : Nat) (w : World) (hf : f ≤ 1048576) (hs : Tro w a n L) :
    Calls Tryd.prog 125 #[.slice a n cap, .int .i64 f] w fun e w' => SzR n L e ∧ Later w w' := by
  have HS := Lib.hid hs
  have hn := hs.2.1
  clear hs
  by_cases h : n ≤ f
  · have e1 : IntKind.i64.wrap ((f : Int) - (n : Int)) = ((f - n : Nat) : Int) := by rw [show (f : Int) - (n : Int) = ((f - n : Nat) : Int) by omega]; exact IntWalk.i64_in _ (by omega)
    obtain ⟨l0, hl0⟩ : ∃ r, r = f - n := ⟨_, rfl⟩
    rw [← hl0] at e1
    have hl1 : l0 ≤ 1048576 := by omega
    clear hl0
    go_enter Tryd.func125, Tryd.ntmps125
    go_wp2_with fail
    go_loopw [1, 5] (fun m i wr => ∃ k l : Nat, i = .int .i64 k ∧ k ≤ n ∧ m = .int .i64 l ∧ l ≤ 1048576 ∧ Later w wr ∧ Hid (∀ j, j < k → (rsx L j).length ≤ 1048576)) (fun _ i _ => n - (intOf i).toNat)
    case atStart => exact ⟨0, l0, rfl, by omega, rfl, hl1, Later.refl _, Lib.hid (by intro j h; omega)⟩
    case round =>
      obtain ⟨k, l, rfl, hk, rfl, hl, hb, HI⟩ := hrel
      have B3 := Lib.hid hb
      by_cases hlt : k < n
      · obtain ⟨b, off, rfl, hc, hd, hg⟩ := (HS.out.later hb).2.2.1 k hlt
        have hml := (HS.out.2.2.2 _ (rk_mem L k (by rw [HS.out.1]; exact hlt))).2.1
        have SZ := Lib.hid (fun W => l_szTerm (rkx L k) (rsx L k) (rnx L k) l W hl hml)
        obtain ⟨x, hx⟩ : ∃ x, x = rkx L k := ⟨_, rfl⟩
        obtain ⟨y, hy⟩ : ∃ y, y = tx (rsx L k) := ⟨_, rfl⟩
        obtain ⟨z, hz⟩ : ∃ x, x = rnx L k := ⟨_, rfl⟩
        rw [← hx] at hc SZ; rw [← hy] at hd SZ; rw [← hz] at hg SZ
        have HL : Hid (∀ j, j < k + 1 → j < k ∨ j = k) := Lib.hid (fun j hj => by omega)
        by_cases hle : (rsx L k).length ≤ l
        · rw [if_pos hle] at SZ
          have HLE := Lib.hid hle
          obtain ⟨r, hr⟩ : ∃ r, r = l - (rsx L k).length := ⟨_, rfl⟩
          rw [← hr] at SZ
          have hr2 : r ≤ 1048576 := by omega
          clear hx hy hz hb hml hle hr
          go_wp2_with (go_at_call 137; refine (SZ.out _).mono ?_; rintro e w4 ⟨rfl, hb⟩; have H4 := Lib.hid hb; clear hb)
          go_roundw
          case rel => exact ⟨k + 1, r, by go_num, by omega, rfl, hr2, (by repeat (first | (with_reducible exact Later.refl _) | (with_reducible exact Hid.out (by assumption)) | (with_reducible refine Later.alloc ?_ _) | (with_reducible refine Later.setCell ?_ (by simp; omega) _) | (with_reducible refine Later.setCell ?_ (by simp) _) | (with_reducible refine Later.drewN ?_ _) | (with_reducible refine Later.drew ?_) | (with_reducible refine Later.trans ?_ (Hid.out (by assumption))))), Lib.hid (by
            intro j hj
            rcases HL.out j hj with h1 | rfl
            · exact HI.out j h1
            · have := HLE.out; omega)⟩
          case measure => simp [intOf]; omega
        · rw [if_neg hle] at SZ
          clear hx hy hz hb hml hle
          go_wp2_with (go_at_call 137; refine (SZ.out _).mono ?_; rintro e w4 ⟨rfl, hb⟩; have H4 := Lib.hid hb; clear hb)
          go_ret
          exact ⟨.inl rfl, (by repeat (first | (with_reducible exact Later.refl _) | (with_reducible exact Hid.out (by assumption)) | (with_reducible refine Later.alloc ?_ _) | (with_reducible refine Later.setCell ?_ (by simp; omega) _) | (with_reducible refine Later.setCell ?_ (by simp) _) | (with_reducible refine Later.drewN ?_ _) | (with_reducible refine Later.drew ?_) | (with_reducible refine Later.trans ?_ (Hid.out (by assumption)))))⟩
      · obtain rfl : k = n := by omega
        clear hb
        go_wp2_with fail
        go_ret
        exact ⟨.inr ⟨l, rfl, hl, Nat.le_trans h hf, HI.out⟩, B3.out⟩
  · have e1 : IntKind.i64.wrap ((f : Int) - (n : Int)) = -((n - f : Nat) : Int) := by rw [show (f : Int) - (n : Int) = -((n - f : Nat) : Int) by omega]; exact IntWalk.i64_in _ (by omega)
    obtain ⟨r, hr⟩ : ∃ r, r = n - f := ⟨_, rfl⟩
    rw [← hr] at e1
    have hr3 : decide (-(r : Int) < 0) = true := by simp; omega
    have hr4 : -(r : Int) < 0 := by omega
    clear hr
    go_enter Tryd.func125, Tryd.ntmps125
    go_wp2_with fail
    go_ret
    exact ⟨.inl rfl, Later.refl _⟩
/-- a copy of which the first k terms are there -/
def cpR (L : List Trm) (m k : Nat) : List Trm := (List.range m).map fun j => if j < k then (rkx L j, rsx L j, rnx L j) else (0, [], 0)
theorem cpR_len (L : List Trm) (m k : Nat) : (cpR L m k).length = m := by simp [cpR]
theorem cpR_at (L : List Trm) (m k j : Nat) (h : j < m) : (cpR L m k).getD j (0, [], 0) = if j < k then (rkx L j, rsx L j, rnx L j) else (0, [], 0) := by
  rw [List.getD_eq_getElem?_getD]; simp [cpR, h]
theorem cpR_full (L : List Trm) (m : Nat) (h : L.length = m) : cpR L m m = L := by
  apply List.ext_getElem
  · rw [cpR_len, h]
  · intro j h1 h2
    have := cpR_at L m m j (by omega)
    rw [List.getD_eq_getElem?_getD, List.getElem?_eq_getElem h1, if_pos (by omega)] at this
    rw [rk_at L j h2]
    simpa using this
theorem cpR_set (L : List Trm) (m k : Nat) (hk : k < m) : (((rcl (cpR L m k)).set (k * 3) (.int .i64 (rkx L k))).set (k * 3 + 1) (.string (tx (rsx L k)))).set (k * 3 + 2) (.int .i64 (rnx L k)) = rcl (cpR L m (k + 1)) := by
  apply List.ext_getElem?
  intro i
  by_cases hi : i < m * 3
  · rw [List.getElem?_set, List.getElem?_set, List.getElem?_set, List.length_set, List.length_set, rcl_len, cpR_len, rcl_get _ i (by rw [cpR_len]; exact hi), rcl_get _ i (by rw [cpR_len]; exact hi)]
    have hj : i / 3 < m := by omega
    unfold rkx rsx rnx
    rw [cpR_at L m k _ hj, cpR_at L m (k + 1) _ hj]
    by_cases e1 : k * 3 + 2 = i
    · subst e1
      rw [if_pos rfl, if_pos (by omega), if_neg (by omega), if_neg (by omega), show (k * 3 + 2) / 3 = k by omega, if_pos (by omega)]; rfl
    · rw [if_neg e1]
      by_cases e2 : k * 3 + 1 = i
      · subst e2
        rw [if_pos rfl, if_pos (by omega), if_neg (by omega), if_pos (by omega), show (k * 3 + 1) / 3 = k by omega, if_pos (by omega)]; rfl
      · rw [if_neg e2]
        by_cases e3 : k * 3 = i
        · subst e3
          rw [if_pos rfl, if_pos (by omega), if_pos (by omega), show k * 3 / 3 = k by omega, if_pos (by omega)]; rfl
        · rw [if_neg e3]
          by_cases c : i / 3 < k
          · have c2 : i / 3 < k + 1 := by omega
            simp only [if_pos c, if_pos c2]
          · have c2 : ¬ i / 3 < k + 1 := by omega
            simp only [if_neg c, if_neg c2]
  · rw [List.getElem?_eq_none (by simp [rcl_len, cpR_len]; omega), List.getElem?_eq_none (by simp [rcl_len, cpR_len]; omega)]
theorem madeR (L : List Trm) (n : Nat) : (madeCells (Value.cells (.agg #[.int .i64 0, .string ⟨#[]⟩, .int .i64 0])) (n * 3)).toList = rcl (cpR L n 0) := by
  apply List.ext_getElem?
  intro j
  by_cases h : j < n * 3
  · rw [rcl_get _ j (by rw [cpR_len]; exact h)]
    have hc : (cpR L n 0).getD (j / 3) (0, [], 0) = (0, [], 0) := by rw [cpR_at L n 0 _ (by omega), if_neg (by omega)]
    unfold rkx rsx rnx
    rw [hc]
    have e : j % 3 = 0 ∨ j % 3 = 1 ∨ j % 3 = 2 := by omega
    rcases e with e | e | e <;> simp [madeCells, Value.cells, h, e, tx]
  · rw [List.getElem?_eq_none (by simp [madeCells]; omega), List.getElem?_eq_none (by rw [rcl_len, cpR_len]; omega)]
/-- a copy of a list of terms -/
def CopiedR (w : World) (n : Nat) (L : List Trm) (e : Ending) (w' : World) : Prop :=
  ∃ g, e = .returned (.slice (some ⟨g, 0, none⟩) n n) ∧ w.heap.size ≤ g ∧ Wrt w' g ∧ Trs w' (some ⟨g, 0, none⟩) n L ∧ Later w w'
theorem l_toTermS (a : Option Addr) (n cap : Nat) (L : List Trm) (w : World) (hs : Trs w a n L) (hn : n ≤ 1048576) :
    Calls Tryd.prog 126 #[.slice a n cap] w (CopiedR w n L) := by
  have HS := Lib.hid hs
  have HL := Lib.hid hs.1
  have HI2 := Lib.hid hs.2.2.2
  clear hs
  obtain ⟨i0, hi, hz0, hz1, hz2⟩ := info_parts info_trmQ
  have HI := Lib.hid hi; clear hi
  have HZ0 := Lib.hid hz0; clear hz0
  have HZ1 := Lib.hid hz1; clear hz1
  have HZ2 := Lib.hid hz2; clear hz2
  go_enter Tryd.func126, Tryd.ntmps126
  go_wp2_with (refine wpList_make_full _ rfl _ _ _ rfl w.heap.size 84 i0 (.agg #[.int .i64 0, .string ⟨#[]⟩, .int .i64 0]) 3 Tryd.underlying54 HI.out HZ0.out HZ1.out _ _ _ _ n rfl rfl rfl rfl (by rw [HZ2.out]; omega) (by unfold maxLen; omega) (Nat.le_refl _) ?_; intro w1 hown hgrow)
  have HO : Hid (w1.ownsRow w.heap.size 84 3 (.slice (some ⟨w.heap.size, 0, none⟩) n n) n (rcl (cpR L n 0))) := Lib.hid (by rw [← madeR]; exact hown)
  have HB : Hid (Later w w1) := Lib.hid ((Below.refl _ _).grown hgrow (Nat.le_refl _) (by simp))
  clear hown hgrow
  go_loopw [4] (fun i wr => ∃ k : Nat, k ≤ n ∧ i = .int .i64 k ∧ wr.ownsRow w.heap.size 84 3 (.slice (some ⟨w.heap.size, 0, none⟩) n n) n (rcl (cpR L n k)) ∧ Later w wr) (fun i _ => n - (intOf i).toNat)
  case atStart => exact ⟨0, by omega, rfl, HO.out, HB.out⟩
  case round =>
    clear HO HB
    obtain ⟨k, hk, rfl, ho, hb⟩ := hrel
    have HR := Lib.hid ho
    have HW := Lib.hid hb
    have hsz := (ho.lt w.heap.size rfl).2
    clear ho hb
    by_cases hlt : k < n
    · obtain ⟨b', off', rfl, c0, c1, c2⟩ := (HS.out.later HW.out).2.2.1 k hlt
      have TT := Lib.hid (fun W => l_toTerm (rkx L k) (rsx L k) (rnx L k) W)
      have HSET := Lib.hid (cpR_set L n k hlt)
      obtain ⟨x, hx⟩ : ∃ x, x = rkx L k := ⟨_, rfl⟩
      obtain ⟨y, hy⟩ : ∃ y, y = tx (rsx L k) := ⟨_, rfl⟩
      obtain ⟨z, hz⟩ : ∃ x, x = rnx L k := ⟨_, rfl⟩
      rw [← hx] at c0 TT HSET; rw [← hy] at c1 TT HSET; rw [← hz] at c2 TT HSET
      clear hx hy hz
      go_wp2_with fail
      refine (TT.out _).mono ?_
      rintro e w2 ⟨rfl, hb2⟩
      have H2 := Lib.hid (Later.trans HW.out hb2)
      have R2 := Lib.hid (HR.out.kept (row := none) (grown_of_later hb2 none) (.inr (fun e => by cases e)))
      have hsz2 : w.heap.size < w2.heap.size := (R2.out.lt w.heap.size rfl).2
      have gt : ∀ j, j < n * 3 → w2.cell? ⟨w.heap.size, j, none⟩ = some (if j % 3 = 0 then .int .i64 (rkx (cpR L n k) (j / 3)) else if j % 3 = 1 then .string (tx (rsx (cpR L n k) (j / 3))) else .int .i64 (rnx (cpR L n k) (j / 3))) := fun j hj => by rw [R2.out.cellAt j hj, rcl_get _ j (by rw [cpR_len]; exact hj)]
      have u0 := gt (k * 3) (by omega)
      have u1 := gt (k * 3 + 1) (by omega)
      have u2 := gt (k * 3 + 2) (by omega)
      rw [if_pos (by omega)] at u0
      rw [if_neg (by omega), if_pos (by omega)] at u1
      rw [if_neg (by omega), if_neg (by omega)] at u2
      have g0 : w2.frozen? ⟨w.heap.size, k * 3, none⟩ = false := R2.out.frozenAt _
      have g1 : w2.frozen? ⟨w.heap.size, k * 3 + 1, none⟩ = false := R2.out.frozenAt _
      have g2 : w2.frozen? ⟨w.heap.size, k * 3 + 2, none⟩ = false := R2.out.frozenAt _
      generalize rkx (cpR L n k) (k * 3 / 3) = z0 at u0
      generalize tx (rsx (cpR L n k) ((k * 3 + 1) / 3)) = z1 at u1
      generalize rnx (cpR L n k) ((k * 3 + 2) / 3) = z2 at u2
      clear hb2 c0 c1 c2 gt HR
      go_wp2_with fail
      go_roundw
      case rel =>
        exact ⟨k + 1, by omega, by go_num, by rw [← HSET.out]; exact (((R2.out.stored _ _).1.stored _ _).1.stored _ _).1, (by repeat (first | (with_reducible exact Hid.out (by assumption)) | (with_reducible refine Later.setCell ?_ (Nat.le_refl _) _) | (with_reducible refine Later.drewN ?_ _) | (with_reducible refine Later.drew ?_)))⟩
      case measure => simp [intOf]; omega
    · obtain rfl : k = n := by omega
      have hlt2 := hsz
      have HWT : Hid (Wrt wr w.heap.size) := Lib.hid ⟨hsz, fun j => HR.out.frozenAt _⟩
      have HF := Lib.hid (cpR_full L k HL.out)
      go_wp2
      go_ret
      refine ⟨w.heap.size, rfl, Nat.le_refl _, HWT.out, ?_, HW.out⟩
      have ho : OwnR wr w.heap.size 84 (.slice (some ⟨w.heap.size, 0, none⟩) k k) L := ⟨by have h1 := HR.out; rw [HF.out] at h1; rw [HL.out]; exact h1, HI2.out⟩
      obtain ⟨a2, c2, e, _, ht, _⟩ := ho.trs
      rw [HL.out] at ht
      cases e
      exact ht
theorem l_eqTerm_same (k : Int) (t : List UInt8) (m : Int) (w : World) : Calls Tryd.prog 83 #[.agg #[.int .i64 k, .string (tx t), .int .i64 m], .agg #[.int .i64 k, .string (tx t), .int .i64 m]] w fun e w' => e = .returned (.bool true) ∧ Later w w' := by
  obtain ⟨s, hs⟩ : ∃ s, s = tx t := ⟨_, rfl⟩
  rw [← hs]
  clear hs
  go_enter Tryd.func83, Tryd.ntmps83
  go_wp2_with fail
  go_ret
  exact ⟨rfl, (by repeat (first | (with_reducible exact Later.refl _) | (with_reducible exact Hid.out (by assumption)) | (with_reducible refine Later.alloc ?_ _) | (with_reducible refine Later.setCell ?_ (by simp; omega) _) | (with_reducible refine Later.setCell ?_ (by simp) _) | (with_reducible refine Later.drewN ?_ _) | (with_reducible refine Later.drew ?_) | (with_reducible refine Later.trans ?_ (Hid.out (by assumption)))))⟩
theorem l_eqTermS_same (a b : Option Addr) (n cap m cap' : Nat) (L : List Trm) (w : World) (hs : Trs w a n L) (ht : Trs w b m L) :
    Calls Tryd.prog 43 #[.slice a n cap, .slice b m cap'] w fun e w' => e = .returned (.bool true) ∧ Later w w' := by
  have hn := hs.1; have hm := ht.1
  obtain rfl : n = m := by omega
  have HS := Lib.hid hs; have HT := Lib.hid ht
  have hn' := hs.2.1
  clear hs ht hm hn
  have e0 : ((n : Int) != (n : Int)) = false := by simp
  go_enter Tryd.func43, Tryd.ntmps43
  go_wp2
  go_loopw [5] (fun i wr => ∃ k : Nat, k ≤ n ∧ i = .int .i64 k ∧ Later w wr) (fun i _ => n - (intOf i).toNat)
  case atStart => exact ⟨0, by omega, rfl, Later.refl _⟩
  case round =>
    obtain ⟨k, hk, rfl, hlw⟩ := hrel
    have HW := Lib.hid hlw
    clear hlw
    by_cases hlt : k < n
    · obtain ⟨b1, o1, rfl, c1, c2, c3⟩ := (HS.out.later HW.out).2.2.1 k hlt
      obtain ⟨b2, o2, rfl, d1, d2, d3⟩ := (HT.out.later HW.out).2.2.1 k hlt
      obtain ⟨x, hx⟩ : ∃ x, x = rkx L k := ⟨_, rfl⟩
      obtain ⟨y, hy⟩ : ∃ y, y = tx (rsx L k) := ⟨_, rfl⟩
      obtain ⟨z, hz⟩ : ∃ x, x = rnx L k := ⟨_, rfl⟩
      have EQ : Hid (∀ W, Calls Tryd.prog 83 #[.agg #[.int .i64 x, .string y, .int .i64 z], .agg #[.int .i64 x, .string y, .int .i64 z]] W fun e w' => e = .returned (.bool true) ∧ Later W w') := Lib.hid (fun W => by rw [hy]; exact l_eqTerm_same _ _ _ _)
      rw [← hx] at c1 d1; rw [← hy] at c2 d2; rw [← hz] at c3 d3
      have C := Lib.hid c1; have C' := Lib.hid c2; have C'' := Lib.hid c3; have D := Lib.hid d1; have D' := Lib.hid d2; have D'' := Lib.hid d3
      have KL : Hid (∀ W', Later wr W' → W'.cell? ⟨b1, o1 + k * 3, none⟩ = some (.int .i64 x) ∧ W'.cell? ⟨b1, o1 + k * 3 + 1, none⟩ = some (.string y) ∧ W'.cell? ⟨b1, o1 + k * 3 + 2, none⟩ = some (.int .i64 z) ∧ W'.cell? ⟨b2, o2 + k * 3, none⟩ = some (.int .i64 x) ∧ W'.cell? ⟨b2, o2 + k * 3 + 1, none⟩ = some (.string y) ∧ W'.cell? ⟨b2, o2 + k * 3 + 2, none⟩ = some (.int .i64 z)) := Lib.hid (fun W' q => ⟨by rw [q.cell (p := ⟨b1, o1 + k * 3, none⟩) (cell_lt C.out)]; exact C.out, by rw [q.cell (p := ⟨b1, o1 + k * 3 + 1, none⟩) (cell_lt C.out)]; exact C'.out, by rw [q.cell (p := ⟨b1, o1 + k * 3 + 2, none⟩) (cell_lt C.out)]; exact C''.out, by rw [q.cell (p := ⟨b2, o2 + k * 3, none⟩) (cell_lt D.out)]; exact D.out, by rw [q.cell (p := ⟨b2, o2 + k * 3 + 1, none⟩) (cell_lt D.out)]; exact D'.out, by rw [q.cell (p := ⟨b2, o2 + k * 3 + 2, none⟩) (cell_lt D.out)]; exact D''.out⟩)
      clear hx hy hz
      go_wp2_with fail
      go_region_held3 (fun w' => w'.cell? ⟨b1, o1 + k * 3, none⟩ = some (.int .i64 x) ∧ w'.cell? ⟨b1, o1 + k * 3 + 1, none⟩ = some (.string y) ∧ w'.cell? ⟨b1, o1 + k * 3 + 2, none⟩ = some (.int .i64 z) ∧ w'.cell? ⟨b2, o2 + k * 3, none⟩ = some (.int .i64 x) ∧ w'.cell? ⟨b2, o2 + k * 3 + 1, none⟩ = some (.string y) ∧ w'.cell? ⟨b2, o2 + k * 3 + 2, none⟩ = some (.int .i64 z)) (exact KL.out _ (by repeat (first | (with_reducible exact Later.refl _) | (with_reducible exact Hid.out (by assumption)) | (with_reducible refine Later.alloc ?_ _) | (with_reducible refine Later.setCell ?_ (by simp; omega) _) | (with_reducible refine Later.setCell ?_ (by simp) _) | (with_reducible refine Later.drewN ?_ _) | (with_reducible refine Later.drew ?_) | (with_reducible refine Later.trans ?_ (Hid.out (by assumption))))))
        (first | (go_at_call 83; refine (EQ.out _).mono ?_; rintro e w1 ⟨rfl, hb1⟩; have H1 := Lib.hid hb1; clear hb1))
      all_goals
        go_wp2
        go_roundw
        case rel => exact ⟨k + 1, by omega, by go_num, (by repeat (first | (with_reducible exact Later.refl _) | (with_reducible exact Hid.out (by assumption)) | (with_reducible refine Later.alloc ?_ _) | (with_reducible refine Later.setCell ?_ (by simp; omega) _) | (with_reducible refine Later.setCell ?_ (by simp) _) | (with_reducible refine Later.drewN ?_ _) | (with_reducible refine Later.drew ?_) | (with_reducible refine Later.trans ?_ (Hid.out (by assumption)))))⟩
        case measure => simp [intOf]; omega
    · obtain rfl : k = n := by omega
      go_wp2
      go_ret
      exact ⟨rfl, HW.out⟩
end Go.Proofs.YtokipobjpinhmaaDoor
