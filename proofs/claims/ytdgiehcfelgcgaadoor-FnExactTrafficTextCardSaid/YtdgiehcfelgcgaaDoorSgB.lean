/- Drawn layouts: whatever is drawn, it is a slice of at most 26 segments with small fields, of the draw's own. -/
import Derived.Test.YtdgiehcfelgcgaaDoorSgA
import Derived.Test.YtdgiehcfelgcgaaDoorOwnS
import Derived.Test.YtdgiehcfelgcgaaDoorSg2
namespace Go.Proofs.YtdgiehcfelgcgaaDoor
open Go.RowKit
set_option maxHeartbeats 4000000
set_option linter.unusedVariables false
set_option linter.unusedSimpArgs false
/-- a segment with small fields -/
def Sb (x : Int) : Prop := -10000000 ≤ x ∧ x ≤ 10000000
theorem sb0 : Sb 0 := ⟨by omega, by omega⟩
theorem Sm.sb {x : Int} (h : Sm x) : Sb x := ⟨by have := h.1; omega, by have := h.2; omega⟩
def SmS (x : Sg) : Prop := Sm x.k ∧ Sh x.l ∧ Sb x.r ∧ Sm x.a ∧ Sm x.b ∧ Sm x.c ∧ Sm x.d
theorem sm0 : Sm 0 := ⟨by omega, by omega⟩
theorem sm4 : Sm 4 := ⟨by omega, by omega⟩
theorem sm1 : Sm 1 := ⟨by omega, by omega⟩
theorem sh1 : Sh 1 := ⟨by omega, by omega⟩
theorem sm10 : Sm 10 := ⟨by omega, by omega⟩
theorem sm60 : Sm 60 := ⟨by omega, by omega⟩
theorem sbR {ml R : Int} (h : Sh ml) (k : -7000000 ≤ R ∧ R ≤ 7000000) : Sb (-R) := ⟨by omega, by omega⟩
theorem smS_in {x : Sg} (h : SmS x) : x.In := by
  obtain ⟨⟨_, _⟩, ⟨_, _⟩, ⟨_, _⟩, ⟨_, _⟩, ⟨_, _⟩, ⟨_, _⟩, _, _⟩ := h
  intro j
  unfold Sg.at
  split <;> constructor <;> omega
theorem St.grow {l : List (Nat × Nat × Value)} {B : Nat} {a : Option Addr} {len cap : Nat} {w0 W W1 : World} {row : Option Nat} (h : St l B a len cap w0 W) (hg : W.grownBy W1 row) (hr : ∀ k, row = some k → w0.heap.size ≤ k ∧ ∀ x ∈ l, x.1 ≠ k) : St l B a len cap w0 W1 := by
  have hB := h.lt
  have hle := h.le
  refine ⟨fun x hx => ?_, h.2.1, ?_, ?_⟩
  · obtain ⟨h1, h2, h3, h4⟩ := h.1 x hx
    have hne : row ≠ some x.1 := fun e => (hr _ e).2 x hx rfl
    exact ⟨h1, Nat.lt_of_lt_of_le h2 hg.size, hg.cell h3 (fun e => hne e.symm), by rw [World.frozen?_of_block (w := W) (hg.block x.1 h2 (fun e => hne e.symm))]; exact h4⟩
  · obtain ⟨⟨p, s, h1, h2, h3, hb⟩, hc⟩ := h.2.2.1
    refine ⟨⟨p, s, h1, h2, h3, by rw [← hb]; exact hg.block B (by omega) (fun e => by have := (hr B e.symm).1; omega)⟩, hc.1, fun k hk => ?_⟩
    obtain ⟨b, off, x, rfl, hne, hx, x0, x1⟩ := hc.2 k hk
    have hlow := h.2.1.low (by omega) ⟨b, off, none⟩ rfl
    exact ⟨b, off, x, rfl, hne, hg.cell hx (fun e => by have := (hr b e.symm).1; simp at hlow; omega), x0, x1⟩
  · refine ⟨hg.os.trans h.2.2.2.os, hg.tape.trans h.2.2.2.tape, hg.output.trans h.2.2.2.output, Nat.le_trans h.2.2.2.size hg.size, fun i hi hne => ?_⟩
    exact (hg.block i (by omega) (fun e => by have := (hr i e.symm).1; omega)).trans (h.2.2.2.block i hi hne)
/-- what a draw of a layout leaves -/
def DrawnLay (w : World) (B : Nat) (a : Option Addr) (len cap : Nat) (e : Ending) (w' : World) : Prop :=
  ∃ (a' : Option Addr) (n cap' : Nat) (L : List Sg), e = .returned (.agg #[.slice a' n cap']) ∧ Sgs w' a' n L ∧ n ≤ cap' ∧ n ≤ 26 ∧ (∀ x ∈ L, SmS x) ∧ (∀ x, a' = some x → w.heap.size ≤ x.block) ∧ Src w' B a len cap ∧ w.grownBy w' (some B)
/-- and that the row may be written -/
def Wrt (w : World) (a : Option Addr) (n : Nat) (L : List Sg) : Prop := 0 < n → ∃ g, a = some ⟨g, 0, none⟩ ∧ SgRow w g n (flt L)
def DrawnLayR (w : World) (B : Nat) (a : Option Addr) (len cap : Nat) (e : Ending) (w' : World) : Prop :=
  ∃ (a' : Option Addr) (n cap' : Nat) (L : List Sg), e = .returned (.agg #[.slice a' n cap']) ∧ Sgs w' a' n L ∧ n ≤ cap' ∧ n ≤ 26 ∧ (∀ x ∈ L, SmS x) ∧ (∀ x, a' = some x → w.heap.size ≤ x.block) ∧ Src w' B a len cap ∧ w.grownBy w' (some B) ∧ Wrt w' a' n L
theorem SgRow.part {w : World} {g n k : Nat} {L : List Sg} (h : SgRow w g n (flt L)) (hk : k ≤ n) : SgRow w g k (flt (L.take k)) :=
  ⟨h.1, fun j hj => by
    have e : flt (L.take k) j = flt L j := by unfold flt; rw [sx_take L k (j / 7) (by omega)]
    rw [e]; exact h.2 j (by omega)⟩
theorem two_mem {x y z : Sg} (h : x ∈ [y, z]) : x = y ∨ x = z := by simpa using h
theorem made7' (n j : Nat) (h : j < n * 7) : ((madeCells (Value.cells (.agg #[.int .i64 0, .int .i64 0, .int .i64 0, .int .i64 0, .int .i64 0, .int .i64 0, .int .i64 0])) (n * 7)).toList)[j]? = some (.int .i64 0) := by
  have e : j % 7 = 0 ∨ j % 7 = 1 ∨ j % 7 = 2 ∨ j % 7 = 3 ∨ j % 7 = 4 ∨ j % 7 = 5 ∨ j % 7 = 6 := by omega
  rcases e with e | e | e | e | e | e | e <;> simp [madeCells, Value.cells, h, e]
theorem absI_bd (n : Int) (m : Int) (h0 : -m ≤ n) (h1 : n ≤ m) : 0 ≤ absI n ∧ absI n ≤ m := by unfold absI; split <;> omega
theorem mem_take {L : List Sg} {k : Nat} {P : Sg → Prop} (h : ∀ x ∈ L, P x) : ∀ x ∈ L.take k, P x := fun x hx => h x (List.mem_of_mem_take hx)
theorem Sgs.take {w : World} {a : Option Addr} {n : Nat} {L : List Sg} (h : Sgs w a n L) (k : Nat) (hk : k ≤ n) : Sgs w a k (L.take k) := by
  obtain ⟨h1, h2, h3, h4⟩ := h
  refine ⟨by rw [List.length_take]; omega, by omega, fun i hi => ?_, fun x hx => h4 x (List.mem_of_mem_take hx)⟩
  obtain ⟨b, off, e, hc⟩ := h3 i (by omega)
  exact ⟨b, off, e, fun j hj => by rw [sx_take L k i hi]; exact hc j hj⟩
end Go.Proofs.YtdgiehcfelgcgaaDoor
