/- The laws' helpers on tokens: equal, marked, held. -/
import Derived.Test.YtpeebgkgccacbaaDoorTks
import Derived.Test.YtpeebgkgccacbaaDoorHeld
import Derived.Test.YtpeebgkgccacbaaDoorNmM
namespace Go.Proofs.YtpeebgkgccacbaaDoor
open Go.RowKit Go.Shelf
set_option maxHeartbeats 4000000
set_option maxRecDepth 100000
set_option linter.unusedVariables false
set_option linter.unusedSimpArgs false
/-- the text that marks number m -/
def mkX (m : Nat) : List UInt8 := 109 :: Lib.decDigits m
theorem l_markText (m : Nat) (w : World) (h0 : 1 ≤ m) (h1 : m ≤ 1000000000) : Calls Tryd.prog 63 #[.int .i64 m] w fun e w' => e = .returned (.string (tx (mkX m))) ∧ Later w w' := by
  obtain ⟨D, hD⟩ : ∃ D, D = Lib.decDigits m := ⟨_, rfl⟩
  have HM : Hid (mkX m = 109 :: D) := Lib.hid (by rw [hD]; rfl)
  have HD := Lib.hid hD
  rw [HM.out]
  have hDl : D.length ≤ 12 := by rw [hD]; exact dec_len1 11 m (by omega)
  clear hD
  go_enter Tryd.func63, Tryd.ntmps63
  go_wp2_with fail
  go_loopw [0, 3] (fun i o wr => ∃ (j : Nat) (O : List UInt8), i = .int .i64 j ∧ o = .string (tx O) ∧ j ≤ m ∧ Hid ((if j = 0 then O else Lib.decDigits j ++ O) = D) ∧ Later w wr) (fun i _ _ => (intOf i).toNat)
  case atStart => exact ⟨m, [], rfl, rfl, by omega, Lib.hid (by rw [if_neg (by omega), List.append_nil, HD.out]), Later.refl _⟩
  case round =>
    obtain ⟨j, O, rfl, rfl, hj, HO, hb⟩ := hrel
    have B3 := Lib.hid hb
    clear hb
    have hOl : O.length ≤ 12 := by
      have h := congrArg List.length HO.out
      split at h
      · omega
      · rw [List.length_append] at h; omega
    have hz : (tx O).size ≤ 1000 := by rw [tx_size]; omega
    by_cases hj0 : j = 0
    · subst hj0
      have HE : Hid (O = D) := Lib.hid (by have := HO.out; rwa [if_pos rfl] at this)
      go_wp2_with fail
      go_ret
      rw [← HE.out]
      exact ⟨rfl, B3.out⟩
    · have hcv := conv1 (48 + (j : Int) % 10) (by omega) (by omega)
      have e2 : (j : Int).tmod 10 = (j : Int) % 10 := Int.tmod_eq_emod_of_nonneg (by omega)
      have e1 : IntKind.i64.wrap ((j : Int).tdiv 10) = ((j / 10 : Nat) : Int) := by rw [Int.tdiv_eq_ediv_of_nonneg (by omega), IntWalk.i64_in _ (by omega)]; omega
      have e3 : IntKind.i64.wrap (48 + (j : Int) % 10) = 48 + (j : Int) % 10 := IntWalk.i64_in _ (by omega)
      have e4 : IntKind.u8.wrap (48 + (j : Int) % 10) = 48 + (j : Int) % 10 := IntWalk.u8_in _ (by omega)
      have HN : Hid ((if j / 10 = 0 then UInt8.ofNat (48 + (j : Int) % 10).toNat :: O else Lib.decDigits (j / 10) ++ (UInt8.ofNat (48 + (j : Int) % 10).toNat :: O)) = D) := Lib.hid (by
        have h := HO.out
        rw [if_neg hj0] at h
        rw [← h, show (48 + (j : Int) % 10).toNat = 48 + j % 10 by omega]
        by_cases h9 : j / 10 = 0
        · rw [if_pos h9, dec_one j (by omega)]
          show _ = [dg1 j] ++ O
          rw [show j % 10 = j by omega]; rfl
        · rw [if_neg h9, dec_more j (by omega)]
          simp [dg1])
      have HNY : Hid (∀ Y, Y = [UInt8.ofNat (48 + (j : Int) % 10).toNat] → (if j / 10 = 0 then Y ++ O else Lib.decDigits (j / 10) ++ (Y ++ O)) = D) := Lib.hid (by rintro Y rfl; exact HN.out)
      obtain ⟨Y, hY⟩ : ∃ Y, Y = [UInt8.ofNat (48 + (j : Int) % 10).toNat] := ⟨_, rfl⟩
      have HN2 := Lib.hid (HNY.out Y hY)
      have hz1 : (tx Y).size = 1 := by rw [hY]; rfl
      rw [← hY] at hcv
      clear hY HN HNY
      have hlt : decide ((0 : Int) < (j : Int)) = true := by simp; omega
      have hlt2 : (0 : Int) < (j : Int) := by omega
      go_wp2_with fail
      go_roundw
      case rel => exact ⟨j / 10, _, rfl, congrArg Value.string (tx_app _ _), by omega, HN2, (by repeat (first | (with_reducible exact Later.refl _) | (with_reducible exact Hid.out (by assumption)) | (with_reducible refine Later.alloc ?_ _) | (with_reducible refine Later.setCell ?_ (by simp; omega) _) | (with_reducible refine Later.setCell ?_ (by simp) _) | (with_reducible refine Later.drewN ?_ _) | (with_reducible refine Later.drew ?_) | (with_reducible refine Later.trans ?_ (Hid.out (by assumption)))))⟩
      case measure => simp [intOf]; omega
theorem l_eqToken_same (k : Int) (t : List UInt8) (w : World) : Calls Tryd.prog 62 #[.agg #[.int .i64 k, .string (tx t)], .agg #[.int .i64 k, .string (tx t)]] w fun e w' => e = .returned (.bool true) ∧ Later w w' := by
  obtain ⟨s, hs⟩ : ∃ s, s = tx t := ⟨_, rfl⟩
  rw [← hs]
  clear hs
  go_enter Tryd.func62, Tryd.ntmps62
  go_wp2_with fail
  go_ret
  exact ⟨rfl, (by repeat (first | (with_reducible exact Later.refl _) | (with_reducible exact Hid.out (by assumption)) | (with_reducible refine Later.alloc ?_ _) | (with_reducible refine Later.setCell ?_ (by simp; omega) _) | (with_reducible refine Later.setCell ?_ (by simp) _) | (with_reducible refine Later.drewN ?_ _) | (with_reducible refine Later.drew ?_) | (with_reducible refine Later.trans ?_ (Hid.out (by assumption)))))⟩
theorem l_eqTokenS_same (a b : Option Addr) (n cap m cap' : Nat) (L : List Tkn) (w : World) (hs : Tks w a n L) (ht : Tks w b m L) :
    Calls Tryd.prog 32 #[.slice a n cap, .slice b m cap'] w fun e w' => e = .returned (.bool true) ∧ Later w w' := by
  have hn := hs.1; have hm := ht.1
  obtain rfl : n = m := by omega
  have HS := Lib.hid hs; have HT := Lib.hid ht
  have hn' := hs.2.1
  clear hs ht hm hn
  have e0 : ((n : Int) != (n : Int)) = false := by simp
  go_enter Tryd.func32, Tryd.ntmps32
  go_wp2
  go_loopw [5] (fun i wr => ∃ k : Nat, k ≤ n ∧ i = .int .i64 k ∧ Later w wr) (fun i _ => n - (intOf i).toNat)
  case atStart => exact ⟨0, by omega, rfl, Later.refl _⟩
  case round =>
    obtain ⟨k, hk, rfl, hlw⟩ := hrel
    have HW := Lib.hid hlw
    clear hlw
    by_cases hlt : k < n
    · obtain ⟨b1, o1, rfl, c1, c2⟩ := (HS.out.later HW.out).2.2.1 k hlt
      obtain ⟨b2, o2, rfl, d1, d2⟩ := (HT.out.later HW.out).2.2.1 k hlt
      obtain ⟨x, hx⟩ : ∃ x, x = tkx L k := ⟨_, rfl⟩
      obtain ⟨y, hy⟩ : ∃ y, y = tx (tsx L k) := ⟨_, rfl⟩
      have EQ : Hid (∀ W, Calls Tryd.prog 62 #[.agg #[.int .i64 x, .string y], .agg #[.int .i64 x, .string y]] W fun e w' => e = .returned (.bool true) ∧ Later W w') := Lib.hid (fun W => by rw [hy]; exact l_eqToken_same _ _ _)
      rw [← hx] at c1 d1; rw [← hy] at c2 d2
      have C := Lib.hid c1; have C' := Lib.hid c2; have D := Lib.hid d1; have D' := Lib.hid d2
      have KL : Hid (∀ W', Later wr W' → W'.cell? ⟨b1, o1 + k * 2, none⟩ = some (.int .i64 x) ∧ W'.cell? ⟨b1, o1 + k * 2 + 1, none⟩ = some (.string y) ∧ W'.cell? ⟨b2, o2 + k * 2, none⟩ = some (.int .i64 x) ∧ W'.cell? ⟨b2, o2 + k * 2 + 1, none⟩ = some (.string y)) := Lib.hid (fun W' q => ⟨by rw [q.cell (p := ⟨b1, o1 + k * 2, none⟩) (cell_lt C.out)]; exact C.out, by rw [q.cell (p := ⟨b1, o1 + k * 2 + 1, none⟩) (cell_lt C.out)]; exact C'.out, by rw [q.cell (p := ⟨b2, o2 + k * 2, none⟩) (cell_lt D.out)]; exact D.out, by rw [q.cell (p := ⟨b2, o2 + k * 2 + 1, none⟩) (cell_lt D.out)]; exact D'.out⟩)
      clear hx hy
      go_wp2_with fail
      go_region_held3 (fun w' => w'.cell? ⟨b1, o1 + k * 2, none⟩ = some (.int .i64 x) ∧ w'.cell? ⟨b1, o1 + k * 2 + 1, none⟩ = some (.string y) ∧ w'.cell? ⟨b2, o2 + k * 2, none⟩ = some (.int .i64 x) ∧ w'.cell? ⟨b2, o2 + k * 2 + 1, none⟩ = some (.string y)) (exact KL.out _ (by repeat (first | (with_reducible exact Later.refl _) | (with_reducible exact Hid.out (by assumption)) | (with_reducible refine Later.alloc ?_ _) | (with_reducible refine Later.setCell ?_ (by simp; omega) _) | (with_reducible refine Later.setCell ?_ (by simp) _) | (with_reducible refine Later.drewN ?_ _) | (with_reducible refine Later.drew ?_) | (with_reducible refine Later.trans ?_ (Hid.out (by assumption))))))
        (first | (go_at_call 62; refine (EQ.out _).mono ?_; rintro e w1 ⟨rfl, hb1⟩; have H1 := Lib.hid hb1; clear hb1))
      all_goals
        go_wp2
        go_roundw
        case rel => exact ⟨k + 1, by omega, by go_num, (by repeat (first | (with_reducible exact Later.refl _) | (with_reducible exact Hid.out (by assumption)) | (with_reducible refine Later.alloc ?_ _) | (with_reducible refine Later.setCell ?_ (by simp; omega) _) | (with_reducible refine Later.setCell ?_ (by simp) _) | (with_reducible refine Later.drewN ?_ _) | (with_reducible refine Later.drew ?_) | (with_reducible refine Later.trans ?_ (Hid.out (by assumption)))))⟩
        case measure => simp [intOf]; omega
    · obtain rfl : k = n := by omega
      go_wp2
      go_ret
      exact ⟨rfl, HW.out⟩
/-- a list of tokens of which the first k are marked -/
def mkT (L : List Tkn) (k : Nat) : List Tkn := (List.range L.length).map fun j => if j < k then (1 + 2 * (j : Int), mkX (2 + 2 * j)) else (tkx L j, tsx L j)
theorem mkT_len (L : List Tkn) (k : Nat) : (mkT L k).length = L.length := by simp [mkT]
theorem mkT_at (L : List Tkn) (k j : Nat) (h : j < L.length) : (mkT L k).getD j (0, []) = if j < k then (1 + 2 * (j : Int), mkX (2 + 2 * j)) else (tkx L j, tsx L j) := by
  rw [List.getD_eq_getElem?_getD]; simp [mkT, h]
theorem mkT_kx (L : List Tkn) (k j : Nat) (h : j < L.length) (hk : j < k) : tkx (mkT L k) j = 1 + 2 * (j : Int) := by unfold tkx; rw [mkT_at L k j h, if_pos hk]
theorem mkT_sx (L : List Tkn) (k j : Nat) (h : j < L.length) (hk : j < k) : tsx (mkT L k) j = mkX (2 + 2 * j) := by unfold tsx; rw [mkT_at L k j h, if_pos hk]
theorem mkT_0 (L : List Tkn) : mkT L 0 = L := by
  apply List.ext_getElem
  · exact mkT_len L 0
  · intro j h1 h2
    have := mkT_at L 0 j h2
    rw [List.getD_eq_getElem?_getD, List.getElem?_eq_getElem h1] at this
    rw [kx_at L j h2]
    simpa using this
theorem tcl_get (L : List Tkn) (i : Nat) (h : i < L.length * 2) : (tcl L)[i]? = some (if i % 2 = 0 then .int .i64 (tkx L (i / 2)) else .string (tx (tsx L (i / 2)))) := by
  by_cases hi : i % 2 = 0
  · rw [if_pos hi]
    have := tcl_0 L (i / 2) (by omega)
    rwa [show i / 2 * 2 = i by omega] at this
  · rw [if_neg hi]
    have := tcl_1 L (i / 2) (by omega)
    rwa [show i / 2 * 2 + 1 = i by omega] at this
theorem mkT_set (L : List Tkn) (k : Nat) (hk : k < L.length) : ((tcl (mkT L k)).set (k * 2) (.int .i64 (1 + 2 * (k : Int)))).set (k * 2 + 1) (.string (tx (mkX (2 + 2 * k)))) = tcl (mkT L (k + 1)) := by
  apply List.ext_getElem?
  intro i
  by_cases hi : i < L.length * 2
  · rw [List.getElem?_set, List.getElem?_set, List.length_set, tcl_len, mkT_len, tcl_get _ i (by rw [mkT_len]; exact hi), tcl_get _ i (by rw [mkT_len]; exact hi)]
    have hj : i / 2 < L.length := by omega
    unfold tkx tsx
    rw [mkT_at L k (i / 2) hj, mkT_at L (k + 1) (i / 2) hj]
    by_cases e1 : k * 2 + 1 = i
    · subst e1
      rw [if_pos rfl, if_pos (by omega), if_neg (by omega), show (k * 2 + 1) / 2 = k by omega, if_pos (by omega)]
    · rw [if_neg e1]
      by_cases e2 : k * 2 = i
      · subst e2
        rw [if_pos rfl, if_pos (by omega), if_pos (by omega), show k * 2 / 2 = k by omega, if_pos (by omega)]
      · rw [if_neg e2]
        by_cases c : i / 2 < k
        · have c2 : i / 2 < k + 1 := by omega
          simp only [if_pos c, if_pos c2]
        · have c2 : ¬ i / 2 < k + 1 := by omega
          simp only [if_neg c, if_neg c2]
  · rw [List.getElem?_eq_none (by simp [tcl_len, mkT_len]; omega), List.getElem?_eq_none (by simp [tcl_len, mkT_len]; omega)]
theorem mkX_len (m : Nat) (h : m ≤ 1000000000) : (mkX m).length ≤ 13 := by
  have := dec_len1 11 m (by omega)
  simp [mkX]; omega
theorem mkT_R (L : List Tkn) (k : Nat) (hl : L.length ≤ 100000000) (h : ∀ x ∈ L, TkR x) : ∀ x ∈ mkT L k, TkR x := by
  intro x hx
  obtain ⟨j, hj, rfl⟩ := List.mem_map.1 hx
  rw [List.mem_range] at hj
  by_cases c : j < k
  · simp only [if_pos c]
    refine ⟨⟨by show _ ≤ (1 + 2 * (j : Int)); omega, by show (1 + 2 * (j : Int)) ≤ _; omega⟩, ?_⟩
    have := mkX_len (2 + 2 * j) (by omega)
    show (mkX (2 + 2 * j)).length ≤ _
    omega
  · simp only [if_neg c]; exact h _ (kx_mem L j hj)
theorem grown_of_later {a b : World} (k : Later a b) (r : Option Nat) : a.grownBy b r := ⟨k.os, k.tape, k.output, k.size, fun i hi _ => k.block i hi⟩
def MarkedT (w : World) (base : Nat) (T : TypeId) (v : Value) (L : List Tkn) (e : Ending) (w' : World) : Prop :=
  e = .returned (.int .i64 (1 + 2 * (L.length : Int))) ∧ OwnK w' base T v (mkT L L.length) ∧ w.grownBy w' v.ownBlock
theorem l_markTokenS (v : Value) (base : Nat) (T : TypeId) (L : List Tkn) (w : World) (ho : OwnK w base T v L) (hl : L.length ≤ 100000000) :
    Calls Tryd.prog 33 #[v, .int .i64 1] w (MarkedT w base T v L) := by
  have HI := Lib.hid ho.2
  obtain ⟨n, hn⟩ : ∃ n, n = L.length := ⟨_, rfl⟩
  have HN := Lib.hid hn
  rcases ho.1.2 with ⟨rfl, h0⟩ | ⟨g, cap, cur, rfl, hb, hg, hnc, hcm, _⟩
  · have e : L = [] := List.length_eq_zero_iff.1 h0
    subst e
    have HO := Lib.hid ho
    clear ho hl hn HN
    go_enter Tryd.func33, Tryd.ntmps33
    go_wp2
    go_loop [1, 5] (fun m i => i = .int .i64 0 ∧ m = .int .i64 1) (fun _ _ => 0)
    case atStart => exact ⟨rfl, rfl⟩
    case round =>
      obtain ⟨rfl, rfl⟩ := hrel
      go_wp2
      go_ret
      exact ⟨rfl, HO.out, ⟨rfl, rfl, rfl, Nat.le_refl _, fun _ _ _ => rfl⟩⟩
  · have O1 : Hid (w.ownsRow base T 2 (.slice (some ⟨g, 0, none⟩) n cap) n (tcl (mkT L 0))) := Lib.hid (by rw [mkT_0, hn]; exact ho.1)
    have hgl : g < w.heap.size := (ho.lt g rfl).2
    rw [← hn] at hl hnc ⊢
    clear hg ho hb hcm
    unfold MarkedT
    rw [← hn]
    have hb1 : Hid (∀ k : Nat, k < n → k * 2 < (mkT L k).length * 2 ∧ k * 2 + 1 < (mkT L k).length * 2) := Lib.hid (fun k hk => by rw [mkT_len, ← HN.out]; omega)
    clear hn
    go_enter Tryd.func33, Tryd.ntmps33
    go_wp2
    go_loopw [1, 5] (fun m i wr => ∃ k : Nat, k ≤ n ∧ i = .int .i64 k ∧ m = .int .i64 (1 + 2 * (k : Int)) ∧ wr.ownsRow base T 2 (.slice (some ⟨g, 0, none⟩) n cap) n (tcl (mkT L k)) ∧ w.grownBy wr (some g)) (fun _ i _ => n - (intOf i).toNat)
    case atStart => exact ⟨0, by omega, rfl, rfl, O1.out, ⟨rfl, rfl, rfl, Nat.le_refl _, fun _ _ _ => rfl⟩⟩
    case round =>
      obtain ⟨k, hk, rfl, rfl, ho, hg⟩ := hrel
      have HR := Lib.hid ho; have HG := Lib.hid hg
      clear ho hg
      by_cases hlt : k < n
      · have hkL : k < (mkT L k).length := by rw [mkT_len, ← HN.out]; exact hlt
        have hz : wr.cell? ⟨g, k * 2, none⟩ = some (.int .i64 (tkx (mkT L k) k)) := by rw [HR.out.cellAt (k * 2) (by omega), tcl_0 _ k hkL]
        have hz2 : wr.cell? ⟨g, k * 2 + 1, none⟩ = some (.string (tx (tsx (mkT L k) k))) := by rw [HR.out.cellAt (k * 2 + 1) (by omega), tcl_1 _ k hkL]
        have hf : wr.frozen? ⟨g, k * 2, none⟩ = false := HR.out.frozenAt _
        have HZ := Lib.hid (tcl_1 (mkT L k) k hkL)
        generalize tkx (mkT L k) k = z at hz
        generalize tx (tsx (mkT L k) k) = z2 at hz2 HZ
        have S1 := HR.out.stored (k * 2) (.int .i64 (1 + 2 * (k : Int)))
        have S1A := Lib.hid S1.1; have S1B := Lib.hid S1.2
        have HST : Hid (tcl (mkT L (k + 1)) = ((tcl (mkT L k)).set (k * 2) (.int .i64 (1 + 2 * (k : Int)))).set (k * 2 + 1) (.string (tx (mkX (2 + 2 * k))))) := Lib.hid (mkT_set L k (by rw [← HN.out]; exact hlt)).symm
        have MT := Lib.hid (fun W => l_markText (2 + 2 * k) W (by omega) (by omega))
        obtain ⟨X, hX⟩ : ∃ X, X = tx (mkX (2 + 2 * k)) := ⟨_, rfl⟩
        rw [← hX] at MT HST
        have em : ((2 + 2 * k : Nat) : Int) = 1 + 2 * (k : Int) + 1 := by omega
        rw [em] at MT
        have hgw : g < wr.heap.size := Go.Lib.lt_of_cell hz
        clear S1 hkL hX em hb1
        go_wp2_with fail
        refine (MT.out _).mono ?_
        rintro e w4 ⟨rfl, hb⟩
        have R4 := Lib.hid (S1A.out.kept (row := none) (grown_of_later hb none) (.inr (fun e => by cases e)))
        have G4 := Lib.hid (grown_trans (grown_trans HG.out S1B.out) (grown_of_later hb (some g)))
        have hz4 : w4.cell? ⟨g, k * 2 + 1, none⟩ = some (.string z2) := by
          rw [R4.out.cellAt (k * 2 + 1) (by omega), List.getElem?_set, if_neg (by omega)]; exact HZ.out
        have hf4 : w4.frozen? ⟨g, k * 2 + 1, none⟩ = false := R4.out.frozenAt _
        have S4 := R4.out.stored (k * 2 + 1) (.string X)
        have S4A := Lib.hid S4.1; have S4B := Lib.hid S4.2
        clear S4 hb hz hz2 hf
        go_wp2_with fail
        go_roundw
        case rel => exact ⟨k + 1, by omega, by go_num, by go_num, by rw [HST.out]; exact S4A.out, grown_trans G4.out S4B.out⟩
        case measure => simp [intOf]; omega
      · obtain rfl : k = n := by omega
        go_wp2
        go_ret
        exact ⟨rfl, ⟨by rw [mkT_len, ← HN.out]; exact HR.out, mkT_R L _ (by rw [← HN.out]; omega) HI.out⟩, HG.out⟩
theorem l_heldTokenS (v : Value) (base : Nat) (T : TypeId) (L : List Tkn) (n : Nat) (w : World) (hn : n = L.length) (ho : OwnK w base T v (mkT L n)) (hl : n ≤ 100000000) :
    Calls Tryd.prog 34 #[v, .int .i64 1] w fun e w' => e = .returned (.int .i64 (1 + 2 * (n : Int))) ∧ Later w w' := by
  obtain ⟨a, cap, rfl, _, hs, _⟩ := ho.tks
  rw [mkT_len, ← hn] at hs ⊢
  have HS := Lib.hid hs
  have HN := Lib.hid hn
  clear hs ho hn
  go_enter Tryd.func34, Tryd.ntmps34
  go_wp2
  go_loopw [1, 5] (fun m i wr => ∃ k : Nat, k ≤ n ∧ i = .int .i64 k ∧ m = .int .i64 (1 + 2 * (k : Int)) ∧ Later w wr) (fun _ i _ => n - (intOf i).toNat)
  case atStart => exact ⟨0, by omega, rfl, rfl, Later.refl _⟩
  case round =>
    obtain ⟨k, hk, rfl, rfl, hb⟩ := hrel
    have B3 := Lib.hid hb
    by_cases hlt : k < n
    · obtain ⟨b, off, rfl, hc, hd⟩ := (HS.out.later hb).2.2.1 k hlt
      rw [mkT_kx L n k (by rw [← HN.out]; exact hlt) hlt] at hc
      rw [mkT_sx L n k (by rw [← HN.out]; exact hlt) hlt] at hd
      have MT := Lib.hid (fun W => l_markText (2 + 2 * k) W (by omega) (by omega))
      obtain ⟨X, hX⟩ : ∃ X, X = tx (mkX (2 + 2 * k)) := ⟨_, rfl⟩
      rw [← hX] at MT hd
      have em : ((2 + 2 * k : Nat) : Int) = 1 + 2 * (k : Int) + 1 := by omega
      rw [em] at MT
      have D := Lib.hid hd
      have KL : Hid (∀ W', Later wr W' → W'.cell? ⟨b, off + k * 2 + 1, none⟩ = some (.string X)) := Lib.hid (fun W' q => by rw [q.cell (p := ⟨b, off + k * 2 + 1, none⟩) (cell_lt D.out)]; exact D.out)
      clear hX em hb
      go_wp2_with fail
      go_region_held3 (fun w' => w'.cell? ⟨b, off + k * 2 + 1, none⟩ = some (.string X)) (exact KL.out _ (by repeat (first | (with_reducible exact Later.refl _) | (with_reducible exact Hid.out (by assumption)) | (with_reducible refine Later.alloc ?_ _) | (with_reducible refine Later.setCell ?_ (by simp; omega) _) | (with_reducible refine Later.setCell ?_ (by simp) _) | (with_reducible refine Later.drewN ?_ _) | (with_reducible refine Later.drew ?_) | (with_reducible refine Later.trans ?_ (Hid.out (by assumption))))))
        (first | (go_at_call 63; refine (MT.out _).mono ?_; rintro e w1 ⟨rfl, hb1⟩; have H1 := Lib.hid hb1; clear hb1))
      all_goals
        go_wp2
        go_roundw
        case rel => exact ⟨k + 1, by omega, by go_num, by go_num, (by repeat (first | (with_reducible exact Later.refl _) | (with_reducible exact Hid.out (by assumption)) | (with_reducible refine Later.alloc ?_ _) | (with_reducible refine Later.setCell ?_ (by simp; omega) _) | (with_reducible refine Later.setCell ?_ (by simp) _) | (with_reducible refine Later.drewN ?_ _) | (with_reducible refine Later.drew ?_) | (with_reducible refine Later.trans ?_ (Hid.out (by assumption)))))⟩
        case measure => simp [intOf]; omega
    · obtain rfl : k = n := by omega
      clear hb
      go_wp2
      go_ret
      exact ⟨rfl, B3.out⟩
end Go.Proofs.YtpeebgkgccacbaaDoor
