/- strings.SplitN at one byte, as a row of words. -/
import Derived.Test.YtdaihpkjnigjgaaDoorPrs
import Derived.Test.YtdaihpkjnigjgaaDoorRdM
import Derived.Test.YtdaihpkjnigjgaaDoorLater
import Derived.Shelf.Strings.SplitShaped
namespace Go.Proofs.YtdaihpkjnigjgaaDoor
open Go.RowKit Go.Shelf
set_option maxHeartbeats 2000000
set_option linter.unusedVariables false
set_option linter.unusedSimpArgs false
/-- the variable that strings.Index looks at holds a number -/
def MaxL (w : World) : Prop := ∃ m, w.cell? ⟨1, 0, none⟩ = some (.int .i64 m)
theorem MaxL.later {w w' : World} (h : MaxL w) (hb : Later w w') : MaxL w' := by
  obtain ⟨m, hm⟩ := h
  exact ⟨m, by rw [hb.cell (p := ⟨1, 0, none⟩) (Go.Lib.lt_of_cell hm)]; exact hm⟩
theorem Errs.lat {w w' : World} (h : Errs w) (hb : Later w w') : Errs w' := h.later hb
/-- a row of words -/
def Wds (w : World) (g n cap : Nat) (W : List (List UInt8)) : Prop :=
  n = W.length ∧ n ≤ cap ∧ g < w.heap.size ∧ ∀ j, j < n → w.cell? ⟨g, j, none⟩ = some (.string (tx (W.getD j [])))
theorem Wds.later {w w' : World} {g n cap : Nat} {W : List (List UInt8)} (h : Wds w g n cap W) (hb : Later w w') : Wds w' g n cap W :=
  ⟨h.1, h.2.1, Nat.lt_of_lt_of_le h.2.2.1 hb.size, fun j hj => by rw [hb.cell (p := ⟨g, j, none⟩) h.2.2.1]; exact h.2.2.2 j hj⟩
theorem cellsOf_at (D : List ByteArray) (N j : Nat) (hj : j < D.length) : (Lib.cellsOf D N)[j]? = some (.string (tx ((D.map (·.data.toList)).getD j []))) := by
  unfold Lib.cellsOf
  rw [List.getElem?_toArray, List.getElem?_append_left (by simpa using hj)]
  simp [hj, List.getD_eq_getElem?_getD, tx]
theorem i_SplitN (c : UInt8) (sep : ByteArray) (hc : sep.data.toList = [c]) (n : Nat) (hn : 1 ≤ n) (hn2 : n ≤ 100) (s : ByteArray) (w : World) (hs : s.size ≤ 1048576) (hm : MaxL w) :
    Calls Tryd.prog 25 #[.string s, .string sep, .int .i64 n] w fun e w' =>
      ∃ g q cap W, w.heap.size ≤ g ∧ W = Lib.splitK [c] 0 (min n (s.data.toList.length + 1) - 1) s.data.toList ∧ e = .returned (.slice (some ⟨g, 0, none⟩) q cap) ∧ Wds w' g q cap W ∧ Later w w' ∧ cap ≤ 1048577 := by
  obtain ⟨m, hm⟩ := hm
  have hlen : s.data.toList.length = s.size := by simp
  have hs1 : 1 ≤ sep.size := by
    have : sep.data.toList.length = sep.size := by simp
    rw [hc] at this; simp at this; omega
  refine (Any.strings_SplitN { Tryd.laysM147 with } Tryd.laysM147.i9 s sep n m w (by omega) hm hs1 hn (by omega)).mono ?_
  rintro e w' ⟨h1, h2⟩
  have hd := splitB_lists c s (min n (s.size + 1) - 1) sep hc
  have hl := congrArg List.length hd
  rw [List.length_map] at hl
  have hb := splitK_len c (min n (s.size + 1) - 1) s.data.toList
  refine ⟨_, _, _, _, Nat.le_refl _, rfl, h1, ⟨by rw [hl, hlen], by rw [hl]; omega, by rw [h2]; simp, fun j hj => ?_⟩, by rw [h2]; exact (Later.refl _).alloc _, by omega⟩
  rw [h2]
  have := cellsOf_at (Lib.splitB sep 0 (min n (s.size + 1) - 1) s) (min n (s.size + 1)) j hj
  rw [hd] at this
  rw [hlen, ← this]
  simp
theorem i_SplitW (s : ByteArray) (w : World) (hs : s.size ≤ 1048576) (hm : MaxL w) :
    Calls Tryd.prog 25 #[.string s, .string (tx [32]), .int .i64 8] w fun e w' =>
      ∃ g q cap W, w.heap.size ≤ g ∧ W = Lib.splitK [32] 0 (min 8 (s.data.toList.length + 1) - 1) s.data.toList ∧ e = .returned (.slice (some ⟨g, 0, none⟩) q cap) ∧ Wds w' g q cap W ∧ Later w w' ∧ cap ≤ 1048577 := i_SplitN 32 (tx [32]) rfl 8 (by omega) (by omega) s w hs hm
theorem i_SplitL (s : ByteArray) (w : World) (hs : s.size ≤ 1048576) (hm : MaxL w) :
    Calls Tryd.prog 25 #[.string s, .string (tx [10]), .int .i64 25] w fun e w' =>
      ∃ g q cap W, w.heap.size ≤ g ∧ W = Lib.splitK [10] 0 (min 25 (s.data.toList.length + 1) - 1) s.data.toList ∧ e = .returned (.slice (some ⟨g, 0, none⟩) q cap) ∧ Wds w' g q cap W ∧ Later w w' ∧ cap ≤ 1048577 := i_SplitN 10 (tx [10]) rfl 25 (by omega) (by omega) s w hs hm
end Go.Proofs.YtdaihpkjnigjgaaDoor
