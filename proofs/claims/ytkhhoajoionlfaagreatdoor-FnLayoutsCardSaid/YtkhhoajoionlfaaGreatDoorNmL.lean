/- Words read as numbers, by the model: l01Numbers. -/
import Derived.Test.YtkhhoajoionlfaaGreatDoorNmS
import Derived.Test.YtkhhoajoionlfaaGreatDoorOwn
namespace Go.Proofs.YtkhhoajoionlfaaGreatDoor
open Go.RowKit Go.Shelf
set_option maxHeartbeats 4000000
set_option linter.unusedVariables false
set_option linter.unusedSimpArgs false
/-- word k of a list of words -/
def wd (L : List (List UInt8)) (k : Nat) : List UInt8 := L.getD k []
/-- 'the first k words are the numbers N' -/
def Zs (L : List (List UInt8)) (k : Nat) (N : List Int) : Prop := N.length = k ∧ ∀ j, j < k → IsZ (wd L j) (N.getD j 0)
theorem zs_nil (L : List (List UInt8)) : Zs L 0 [] := ⟨rfl, fun j hj => absurd hj (by omega)⟩
theorem zs_snoc {L : List (List UInt8)} {k : Nat} {N : List Int} {n : Int} (h : Zs L k N) (hn : IsZ (wd L k) n) : Zs L (k + 1) (N ++ [n]) := by
  refine ⟨by rw [List.length_append, h.1]; rfl, fun j hj => ?_⟩
  by_cases hjk : j < k
  · rw [List.getD_eq_getElem?_getD, List.getElem?_append_left (by rw [h.1]; exact hjk), ← List.getD_eq_getElem?_getD]; exact h.2 j hjk
  · obtain rfl : j = k := by omega
    rw [List.getD_eq_getElem?_getD, List.getElem?_append_right (by rw [h.1]; omega), h.1]
    simpa using hn
/-- a row of words in memory: n words from offset off of block g -/
def Txs (w : World) (g off n : Nat) (L : List (List UInt8)) : Prop :=
  L.length = n ∧ g < w.heap.size ∧ (∀ k, k < n → w.cell? ⟨g, off + k, none⟩ = some (.string (tx (wd L k)))) ∧ ∀ k, (wd L k).length ≤ 1048576
theorem Txs.later {w w' : World} {g off n : Nat} {L : List (List UInt8)} (h : Txs w g off n L) (hb : Later w w') : Txs w' g off n L :=
  ⟨h.1, Nat.lt_of_lt_of_le h.2.1 hb.size, fun k hk => by rw [hb.cell (p := ⟨g, off + k, none⟩) h.2.1]; exact h.2.2.1 k hk, h.2.2.2⟩
theorem own_new0 (w : World) (base : Nat) (h : base ≤ w.heap.size) : Own (w.alloc (.cells #[] 2)) base (.slice (some ⟨w.heap.size, 0, none⟩) 0 0) [] := own_new w base h
def ReadsL (w : World) (L : List (List UInt8)) (e : Ending) (w' : World) : Prop :=
  Later w w' ∧ ((∃ N v, Zs L L.length N ∧ e = .returned (.tuple #[v, .bool true]) ∧ Own w' w.heap.size v N) ∨ ((∀ N, ¬ Zs L L.length N) ∧ e = .returned (.tuple #[.slice none 0 0, .bool false])))
theorem s_Numbers (g off n cap : Nat) (L : List (List UInt8)) (w : World) (hs : Txs w g off n L) (hn : n ≤ 1048577) :
    Calls Tryz.prog 40 #[.slice (some ⟨g, off, none⟩) n cap] w (ReadsL w L) := by
  have HS := Lib.hid hs
  have HL := Lib.hid hs.1
  clear hs
  go_enter Tryz.func40, Tryz.ntmps40
  go_wp2_with fail
  have O0 := Lib.hid (own_new0 w w.heap.size (Nat.le_refl _))
  go_loopw [4, 5] (fun v i wr => ∃ (N : List Int) (k : Nat), i = .int .i64 k ∧ k ≤ n ∧ Hid (Zs L k N) ∧ Own wr w.heap.size v N ∧ Later w wr) (fun _ i _ => n - (intOf i).toNat)
  case atStart => exact ⟨[], 0, rfl, by omega, Lib.hid (zs_nil L), O0.out, (Later.refl _).alloc _⟩
  case round =>
    obtain ⟨N, k, rfl, hk, HZ, ho, hb⟩ := hrel
    have O3 := Lib.hid ho; have B3 := Lib.hid hb
    clear ho hb O0
    by_cases hlt : k < n
    · have cc := (HS.out.later B3.out).2.2.1 k hlt
      have hg := (HS.out.later B3.out).2.1
      have hwl : (tx (wd L k)).size ≤ 1048576 := HS.out.2.2.2 k
      go_wp2_with fail
      refine (s_Signed _ _ hwl).mono ?_
      rintro e w4 ⟨hb4, hres⟩
      have hres : (∃ n : Int, IsZ (wd L k) n ∧ e = .returned (.tuple #[.int .i64 n, .bool true])) ∨ ((∀ n, ¬ IsZ (wd L k) n) ∧ ∃ n : Int, e = .returned (.tuple #[.int .i64 n, .bool false])) := hres
      have B4 := Lib.hid (Later.trans B3.out hb4)
      have O4 := Lib.hid (O3.out.kept (row := none) ⟨hb4.os, hb4.tape, hb4.output, hb4.size, fun i hi _ => hb4.block i hi⟩ (fun k hk => by cases hk))
      clear hb4 cc hg
      have hsz4 : w.heap.size ≤ w4.heap.size := B4.out.size
      rcases hres with ⟨m, hm, rfl⟩ | ⟨hm, m, rfl⟩
      · have HM := Lib.hid (zs_snoc HZ.out hm)
        have hin : InR m := ⟨by have := hm.1; omega, by have := hm.2.1; omega⟩
        have hNl : N.length ≤ 1000000000 := by rw [HZ.out.1]; omega
        clear hm
        go_wp2_with (at_builtin; go_must (refine app1 rfl _ _ rfl w.heap.size _ _ _ _ _ O4.out rfl rfl hin hNl hsz4 ?_; intro v' w5 ho hg))
        have B5 : Later w w5 := Below.grown B4.out hg hsz4 (fun j hj => (O4.out.lt j hj).1)
        go_roundw
        case rel => exact ⟨_, k + 1, by go_num, by omega, HM, ho, B5⟩
        case measure => simp [intOf]; omega
      · have HN : Hid (∀ N, ¬ Zs L L.length N) := Lib.hid (fun N h => hm _ (h.2 k (by rw [HL.out]; exact hlt)))
        clear hm
        go_wp2_with fail
        go_ret2
        exact ⟨B4.out, .inr ⟨HN.out, rfl⟩⟩
    · obtain rfl : k = n := by omega
      go_wp2_with fail
      go_ret2
      exact ⟨B3.out, .inl ⟨N, _, by rw [HL.out]; exact HZ.out, rfl, O3.out⟩⟩
end Go.Proofs.YtkhhoajoionlfaaGreatDoor
