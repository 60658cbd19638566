/- Tokens drawn: texts, keywords and lists. -/
import Derived.Test.YtpeebgkgccacbaaDoorTkA
namespace Go.Proofs.YtpeebgkgccacbaaDoor
open Go.RowKit Go.Shelf
set_option maxHeartbeats 4000000
set_option maxRecDepth 100000
set_option linter.unusedVariables false
set_option linter.unusedSimpArgs false
theorem grownA_then {a b c : World} {B : Nat} {r : Option Nat} (h : a.grownBy b (some B)) (k : b.grownBy c r) (hr : ∀ j, r = some j → a.heap.size ≤ j) : a.grownBy c (some B) :=
  ⟨k.os.trans h.os, k.tape.trans h.tape, k.output.trans h.output, Nat.le_trans h.size k.size, fun i hi hne => by
    rw [k.block i (Nat.lt_of_lt_of_le hi h.size) (fun e => by have := hr i e.symm; omega)]
    exact h.block i hi hne⟩
theorem field_tok (k : Int) (s : ByteArray) (W : World) : (Instr.field 33 (.agg #[.int .i64 k, .string s]) 1).run Tryd.prog W = .ok (.string s) W := by kernel_rfl
/-- how long a text is -/
def szOf : Value → Nat
  | .string s => s.size
  | _ => 0
theorem s_Draw12 (B : Nat) (a : Option Addr) (len cap : Nat) (w : World) (hs : Src w B a len cap) (hab : 0 < len → ∀ x, a = some x → x.block < B) : Calls Tryd.prog 54 #[.pointer (some ⟨B, 0, none⟩)] w (DrWd B a len cap 6100 w) := by
  have HS := Lib.hid hs
  have HAB := Lib.hid hab
  have hB := hs.lt
  clear hs hab
  go_enter Tryd.func54, Tryd.ntmps54
  go_wp2_with fail
  refine (s_Next B a len cap 12 _ HS.out (by omega) (by omega)).mono ?_
  rintro e w1 ⟨q, rfl, q0, q1, q2, src, gr⟩
  have S1 := Lib.hid src; have G1 := Lib.hid gr
  have hq := q1 (by omega)
  obtain ⟨qn, rfl⟩ := Int.eq_ofNat_of_zero_le q0
  clear src gr q1 q2
  go_wp2_with fail
  go_loopw [3, 4] (fun o i wr => ∃ (T : List UInt8) (k : Nat), i = .int .i64 k ∧ k ≤ 11 ∧ o = .string (tx T) ∧ T.length ≤ 30 * (11 - k) ∧ Src wr B a len cap ∧ w.grownBy wr (some B)) (fun _ i _ => (intOf i).toNat)
  case atStart => exact ⟨[], qn, rfl, by omega, rfl, by simp, S1.out, G1.out⟩
  case round =>
    obtain ⟨T, k, rfl, hk, rfl, hT, src, gr⟩ := hrel
    have S3 := Lib.hid src; have G3 := Lib.hid gr
    have hz := gr.size
    clear src gr S1 G1
    by_cases hk0 : k = 0
    · have e0 : decide ((0 : Int) < (k : Int)) = false := by simp; omega
      have e1 : ¬ (0 : Int) < (k : Int) := by omega
      have e2 : ¬ 0 < k := by omega
      have e3 : decide (0 < k) = false := by simpa using e2
      have hT2 : T.length ≤ 330 := by omega
      have hTz : (tx T).size ≤ 1000 := by rw [tx_size]; omega
      clear hk0
      go_wp2_with fail
      refine (s_Next B a len cap 40 _ S3.out (by omega) (by omega)).mono ?_
      rintro e w4 ⟨q, rfl, q0, q1, q2, src, gr⟩
      have S4 := Lib.hid src; have G4 := Lib.hid (grown_trans G3.out gr)
      have hq40 := q1 (by omega)
      have hz4 := G4.out.size
      clear src gr q1 q2
      rcases (show q = 0 ∨ q = 1 ∨ q = 2 ∨ 2 < q by omega) with rfl | rfl | rfl | hq3
      · have LT := Lib.hid (lit_cell w4 [[37], [65], [9], [35]] 9 13 (by decide))
        go_wp2_with fail
        refine (s_Next B a len cap 4 _ (S4.out.alloc _) (by omega) (by omega)).mono ?_
        rintro e w7 ⟨r, rfl, r0, r1, r2, src, gr⟩
        obtain ⟨j, rfl⟩ := Int.eq_ofNat_of_zero_le r0
        have hj : j < 4 := by have := r1 (by omega); omega
        obtain ⟨t, hc0, ht⟩ := LT.out j hj
        have hc : w7.cell? ⟨w4.heap.size, j, none⟩ = some (.string (tx t)) := gr.cell hc0 (by simp; omega)
        have G7 := Lib.hid (grown_trans (grownA_alloc G4.out _) gr); have S7 := Lib.hid src
        have htz : (tx t).size ≤ 13 := by rw [tx_size]; exact ht
        clear src gr r0 r1 r2 hc0
        go_wp2_with fail
        go_ret
        exact ⟨T ++ t, congrArg (fun s => Ending.returned (.string s)) (tx_app _ _), by rw [List.length_append]; omega, S7.out, G7.out⟩
      · go_wp2_with fail
        go_loopw [3] (fun o wr => ∃ T : List UInt8, o = .string (tx T) ∧ T.length ≤ 801 ∧ Src wr B a len cap ∧ w.grownBy wr (some B)) (fun o _ => 802 - szOf o)
        case atStart => exact ⟨T, rfl, by omega, S4.out, G4.out⟩
        case round =>
          obtain ⟨T2, rfl, hT3, src, gr⟩ := hrel
          have S5 := Lib.hid src; have G5 := Lib.hid gr
          have hTz2 : (tx T2).size = T2.length := rfl
          clear src gr
          go_wp2_with fail
          refine (s_Next B a len cap 2 _ S5.out (by omega) (by omega)).mono ?_
          rintro e w7 ⟨r, rfl, r0, r1, r2, src, gr⟩
          have hr2 := r1 (by omega)
          have S7 := Lib.hid src; have G7 := Lib.hid (grown_trans G5.out gr)
          clear src gr r1 r2
          by_cases hlt : (T2.length : Int) < 800 + r
          · have hd : decide ((T2.length : Int) < 800 + r) = true := by simpa using hlt
            go_wp2_with fail
            go_roundw
            case rel => exact ⟨T2 ++ [59], congrArg Value.string (tx_app T2 [59]), by rw [List.length_append, List.length_singleton]; omega, S7.out, G7.out⟩
            case measure =>
              show 802 - (tx T2 ++ tx [59]).size < 802 - (tx T2).size
              rw [tx_app, tx_size, tx_size, List.length_append, List.length_singleton]; omega
          · have hd : decide ((T2.length : Int) < 800 + r) = false := by simpa using hlt
            go_wp2_with fail
            go_ret
            exact ⟨T2, rfl, by omega, S7.out, G7.out⟩
      · go_wp2_with fail
        go_loopw [3] (fun o wr => ∃ T : List UInt8, o = .string (tx T) ∧ T.length ≤ 6001 ∧ Src wr B a len cap ∧ w.grownBy wr (some B)) (fun o _ => 6002 - szOf o)
        case atStart => exact ⟨T, rfl, by omega, S4.out, G4.out⟩
        case round =>
          obtain ⟨T2, rfl, hT3, src, gr⟩ := hrel
          have S5 := Lib.hid src; have G5 := Lib.hid gr
          have hTz2 : (tx T2).size = T2.length := rfl
          clear src gr
          go_wp2_with fail
          refine (s_Next B a len cap 2 _ S5.out (by omega) (by omega)).mono ?_
          rintro e w7 ⟨r, rfl, r0, r1, r2, src, gr⟩
          have hr2 := r1 (by omega)
          have S7 := Lib.hid src; have G7 := Lib.hid (grown_trans G5.out gr)
          clear src gr r1 r2
          by_cases hlt : (T2.length : Int) < 6000 + r
          · have hd : decide ((T2.length : Int) < 6000 + r) = true := by simpa using hlt
            go_wp2_with fail
            go_roundw
            case rel => exact ⟨T2 ++ [32], congrArg Value.string (tx_app T2 [32]), by rw [List.length_append, List.length_singleton]; omega, S7.out, G7.out⟩
            case measure =>
              show 6002 - (tx T2 ++ tx [32]).size < 6002 - (tx T2).size
              rw [tx_app, tx_size, tx_size, List.length_append, List.length_singleton]; omega
          · have hd : decide ((T2.length : Int) < 6000 + r) = false := by simpa using hlt
            go_wp2_with fail
            go_ret
            exact ⟨T2, rfl, by omega, S7.out, G7.out⟩
      · have d0 : (q == 0) = false := by simp; omega
        have d1 : (q == 1) = false := by simp; omega
        have d2 : (q == 2) = false := by simp; omega
        go_wp2_with fail
        go_ret
        exact ⟨T, rfl, by omega, S4.out, G4.out⟩
    · have e0 : decide ((0 : Int) < (k : Int)) = true := by simp; omega
      have e1 : (0 : Int) < (k : Int) := by omega
      have e2 : 0 < k := by omega
      have e3 : decide (0 < k) = true := by simpa using e2
      have ekw : IntKind.i64.wrap ((k : Int) - 1) = ((k - 1 : Nat) : Int) := by rw [show (k : Int) - 1 = ((k - 1 : Nat) : Int) by omega]; exact IntWalk.i64_in _ (by omega)
      clear hk0
      go_wp2_with fail
      refine (s_DrawToken12 B a len cap _ S3.out HAB.out).mono ?_
      rintro e w4 ⟨kk, t, rfl, hkk, ht, src, gr⟩
      have S4 := Lib.hid src; have G4 := Lib.hid (grown_trans G3.out gr)
      have hz4 := G4.out.size
      have hfl := field_tok kk (tx t)
      have htz : (tx t).size ≤ 13 := by rw [tx_size]; exact ht
      have hTz : (tx T).size ≤ 1000 := by rw [tx_size]; omega
      have hTt : (tx T ++ tx t).size ≤ 1100 := by rw [tx_app, tx_size, List.length_append]; omega
      have LT := Lib.hid (lit_cell w4 [[32], [], [10], [32, 32], [35, 99, 40, 61, 10], [32, 35, 32, 120]] 9 13 (by decide))
      clear src gr
      go_wp2_with fail
      refine (s_Next B a len cap 6 _ (S4.out.alloc _) (by omega) (by omega)).mono ?_
      rintro e w7 ⟨r, rfl, r0, r1, r2, src, gr⟩
      obtain ⟨j, rfl⟩ := Int.eq_ofNat_of_zero_le r0
      have hj : j < 6 := by have := r1 (by omega); omega
      obtain ⟨u, hc0, hu⟩ := LT.out j hj
      have hc : w7.cell? ⟨w4.heap.size, j, none⟩ = some (.string (tx u)) := gr.cell hc0 (by simp; omega)
      have G7 := Lib.hid (grown_trans (grownA_alloc G4.out _) gr); have S7 := Lib.hid src
      have huz : (tx u).size ≤ 13 := by rw [tx_size]; exact hu
      clear src gr r0 r1 r2 hc0 hfl
      go_wp2_with fail
      go_roundw
      case rel => exact ⟨T ++ t ++ u, k - 1, rfl, by omega, congrArg Value.string ((congrArg (· ++ tx u) (tx_app T t)).trans (tx_app _ _)), by rw [List.length_append, List.length_append]; omega, S7.out, G7.out⟩
      case measure => simp [intOf]; omega
theorem Later.trans' {a b c : World} {B : Nat} (h : Later a b) (k : b.grownBy c (some B)) (hB : a.heap.size ≤ B) : Later a c :=
  Below.trans h (grown_below k hB h.size)
/-- a text drawn from a code -/
def DrTx (m : Nat) (w : World) (e : Ending) (w' : World) : Prop := ∃ t : List UInt8, e = .returned (.string (tx t)) ∧ t.length ≤ m ∧ Later w w'
theorem s_DrawReadTokens (a : Option Addr) (len cap : Nat) (w : World) (hs : Bytes w a len) : Calls Tryd.prog 23 #[.slice a len cap] w (DrTx 6100 w) := by
  have HS := Lib.hid hs
  have HAB := Lib.hid hs.low
  clear hs
  go_enter Tryd.func23, Tryd.ntmps23
  go_wp2_with fail
  refine (s_From a len cap w HS.out).mono ?_
  rintro e w1 ⟨rfl, src, lt, bel⟩
  have S1 := Lib.hid src; have B1 := Lib.hid bel
  clear src bel
  go_wp2_with fail
  refine (s_Draw12 w.heap.size a len cap _ S1.out HAB.out).mono ?_
  rintro e w2 ⟨t, rfl, ht, src, gr⟩
  have B2 : Hid (Later w w2) := Lib.hid (B1.out.trans (grown_below gr (Nat.le_refl _) (Nat.le_of_lt lt)))
  clear src gr
  go_wp2_with fail
  go_ret
  exact ⟨t, rfl, ht, B2.out⟩
theorem s_DrawIsKeyword (a : Option Addr) (len cap : Nat) (w : World) (hs : Bytes w a len) : Calls Tryd.prog 29 #[.slice a len cap] w (DrTx 13 w) := by
  have HS := Lib.hid hs
  clear hs
  go_enter Tryd.func29, Tryd.ntmps29
  go_wp2_with fail
  refine (s_From a len cap w HS.out).mono ?_
  rintro e w1 ⟨rfl, src, lt, bel⟩
  have S1 := Lib.hid src; have B1 := Lib.hid bel
  clear src bel
  go_wp2_with fail
  refine (s_Next w.heap.size a len cap 2 _ S1.out (by omega) (by omega)).mono ?_
  rintro e w2 ⟨q, rfl, q0, q1, q2, src, gr⟩
  have hq := q1 (by omega)
  have S2 := Lib.hid src
  have B2 : Hid (Later w w2) := Lib.hid (B1.out.trans (grown_below gr (Nat.le_refl _) (Nat.le_of_lt lt)))
  have hz2 := B2.out.size
  clear src gr q1 q2
  rcases (show q = 0 ∨ q = 1 by omega) with rfl | rfl
  · have LT : Hid (∀ j, j < 17 → ∃ t : List UInt8, (w2.alloc (.cells kwV 9)).cell? ⟨w2.heap.size, j, none⟩ = some (.string (tx t)) ∧ t.length ≤ 13) := Lib.hid (fun j hj => lit_cell w2 kws 9 13 (by decide) j hj)
    go_wp2_with fail
    refine (s_Keywords _).mono ?_
    rintro e w3 ⟨rfl, rfl⟩
    go_wp2_with fail
    refine (s_Next w.heap.size a len cap 17 _ (S2.out.alloc _) (by omega) (by omega)).mono ?_
    rintro e w7 ⟨r, rfl, r0, r1, r2, src, gr⟩
    obtain ⟨j, rfl⟩ := Int.eq_ofNat_of_zero_le r0
    have hj : j < 17 := by have := r1 (by omega); omega
    obtain ⟨t, hc0, ht⟩ := LT.out j hj
    have hlt2 := S2.out.lt
    have hc : w7.cell? ⟨w2.heap.size, j, none⟩ = some (.string (tx t)) := gr.cell hc0 (by simp; omega)
    have B7 : Hid (Later w w7) := Lib.hid ((Later.alloc B2.out _).trans' gr (by omega))
    clear src gr r0 r1 r2 hc0
    go_wp2_with fail
    go_ret
    exact ⟨t, rfl, ht, B7.out⟩
  · go_wp2_with fail
    refine (s_DrawWord12 w.heap.size a len cap _ S2.out).mono ?_
    rintro e w7 ⟨t, rfl, ht, src, gr⟩
    have B7 : Hid (Later w w7) := Lib.hid (B2.out.trans' gr (by omega))
    clear src gr
    go_wp2_with fail
    go_ret
    exact ⟨t, rfl, ht, B7.out⟩
end Go.Proofs.YtpeebgkgccacbaaDoor
