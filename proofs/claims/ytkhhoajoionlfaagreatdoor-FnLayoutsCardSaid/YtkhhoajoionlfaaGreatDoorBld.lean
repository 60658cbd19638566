/- strings.Builder by its contracts: a builder of the call's own, kept through later worlds. -/
import Derived.Test.YtkhhoajoionlfaaGreatDoorTx0
import Derived.Test.YtkhhoajoionlfaaGreatDoorLater
import Derived.Test.YtkhhoajoionlfaaGreatDoorGrown
namespace Go.Proofs.YtkhhoajoionlfaaGreatDoor
open Go.RowKit Go.Shelf
set_option maxHeartbeats 2000000
set_option linter.unusedVariables false
set_option linter.unusedSimpArgs false
/-- 'the builder at block b holds the bytes l; what it has laid lies in blocks from b on' -/
def Bld (w : World) (b : Nat) (l : List UInt8) : Prop := Lib.IsBuilderF 39 5 b b (Lib.byteCells l) w
theorem BuilderAtF.later {T e : TypeId} {B b : Nat} {p : Value} {bs : List Value} {w w' : World} (h : Lib.BuilderAtF T e B b p bs w) (k : Later w w') : Lib.BuilderAtF T e B b p bs w' := by
  have hlt := h.lt
  obtain ⟨hB, v, hb, hown, hne⟩ := h
  exact ⟨hB, v, (k.block b hlt).trans hb, hown.kept (row := none) ⟨k.os, k.tape, k.output, k.size, fun i hi _ => k.block i hi⟩ (by cases hv : v.ownBlock <;> simp), hne⟩
theorem Bld.later {w w' : World} {b : Nat} {l : List UInt8} (h : Bld w b l) (k : Later w w') : Bld w' b l := by
  rcases h with h | h
  · exact .inl (BuilderAtF.later h k)
  · exact .inr (BuilderAtF.later h k)
theorem Bld.lt {w : World} {b : Nat} {l : List UInt8} (h : Bld w b l) : b < w.heap.size := by
  rcases h with h | h
  · exact h.lt
  · exact h.lt
theorem bld_new (w : World) : Bld (w.alloc (.cells #[.pointer none, .slice none 0 0] 39)) w.heap.size [] := Lib.IsBuilderF.of (Lib.fresh_isBuilder _ _ w)
theorem b_WriteString (b : Nat) (l m : List UInt8) (w : World) (h : Bld w b l) (hl : l.length + m.length ≤ 140737488355328) :
    Calls Tryz.prog 16 #[.pointer (some ⟨b, 0, none⟩), .string (tx m)] w (fun e w' => e = .returned (.tuple #[.int .i64 m.length, .nilIface]) ∧ Bld w' b (l ++ m) ∧ Below b w w') := by
  refine (Any.Builder_WriteString_k (ρ := Tryz.laysB_ren) { Tryz.laysB with } Tryz.laysBX b b (Lib.byteCells l) (tx m) w h (by rw [Lib.byteCells_length]; exact hl) (Nat.le_of_lt h.lt)).mono ?_
  rintro e w' ⟨he, hb, hk, _⟩
  refine ⟨he, .inr ?_, hk⟩
  rw [Lib.byteCells_append]
  exact hb
theorem b_WriteByte (b : Nat) (l : List UInt8) (c : UInt8) (w : World) (h : Bld w b l) (hl : l.length + 1 ≤ 140737488355328) :
    Calls Tryz.prog 18 #[.pointer (some ⟨b, 0, none⟩), .int .u8 c.toNat] w (fun e w' => e = .returned .nilIface ∧ Bld w' b (l ++ [c]) ∧ Below b w w') := by
  refine (Any.Builder_WriteByte_k (ρ := Tryz.laysB_ren) Tryz.laysB167 Tryz.laysBX b b (Lib.byteCells l) c.toNat w h (by rw [Lib.byteCells_length]; exact hl) (Nat.le_of_lt h.lt)).mono ?_
  rintro e w' ⟨he, hb, hk, _⟩
  refine ⟨he, .inr ?_, hk⟩
  rw [Lib.byteCells_append]
  exact hb
theorem b_WriteNL (b : Nat) (l : List UInt8) (w : World) (h : Bld w b l) (hl : l.length + 1 ≤ 140737488355328) :
    Calls Tryz.prog 18 #[.pointer (some ⟨b, 0, none⟩), .int .u8 10] w (fun e w' => e = .returned .nilIface ∧ Bld w' b (l ++ [10]) ∧ Below b w w') := b_WriteByte b l 10 w h hl
theorem b_String (b : Nat) (l : List UInt8) (w : World) (h : Bld w b l) :
    Calls Tryz.prog 19 #[.pointer (some ⟨b, 0, none⟩)] w (fun e w' => e = .returned (.string (tx l)) ∧ Below b w w') :=
  (Any.Builder_String_any_k (ρ := Tryz.laysB_ren) { Tryz.laysB with } Tryz.laysBX b b l w h (Nat.le_of_lt h.lt)).mono fun e w' ⟨he, _, hk, _⟩ => ⟨he, hk⟩
end Go.Proofs.YtkhhoajoionlfaaGreatDoor
