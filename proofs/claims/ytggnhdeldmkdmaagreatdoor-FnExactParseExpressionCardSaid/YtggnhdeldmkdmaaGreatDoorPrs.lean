/- strconv.ParseInt in base 10, and the two errors that it hands back. -/
import Derived.Test.YtggnhdeldmkdmaaGreatDoorTx0
import Derived.Shelf.Strconv.ErrVarParseInt
namespace Go.Proofs.YtggnhdeldmkdmaaGreatDoor
open Go.RowKit Go.Shelf
set_option maxHeartbeats 2000000
set_option linter.unusedVariables false
set_option linter.unusedSimpArgs false
/-- the two errors that strconv hands back -/
def Errs (w : World) : Prop := (∃ tp p, w.var? Tryz.prog "strconv.ErrSyntax" = some #[.iface tp p]) ∧ ∃ tp p, w.var? Tryz.prog "strconv.ErrRange" = some #[.iface tp p]
theorem gSyn : Tryz.prog.globalNamed "strconv.ErrSyntax" = some 3 := by kernel_rfl
theorem gRan : Tryz.prog.globalNamed "strconv.ErrRange" = some 4 := by kernel_rfl
theorem var_lt {w : World} {n : String} {g : Nat} {cs : Array Value} (hg : Tryz.prog.globalNamed n = some g) (h : w.var? Tryz.prog n = some cs) (hc : 0 < cs.size) : g < w.heap.size := by
  have h0 := World.var?_cell hg h 0
  rw [Array.getElem?_eq_getElem hc] at h0
  exact Go.Lib.lt_of_cell h0
theorem Errs.later {w w' : World} (h : Errs w) (hb : Below w.heap.size w w') : Errs w' := by
  obtain ⟨⟨t1, p1, h1⟩, ⟨t2, p2, h2⟩⟩ := h
  exact ⟨⟨t1, p1, var?_below hb gSyn (var_lt gSyn h1 (by simp)) h1⟩, ⟨t2, p2, var?_below hb gRan (var_lt gRan h2 (by simp)) h2⟩⟩
theorem i_Parse_ok (t : ByteArray) (w : World) (hs : t.size ≤ 281474976710656) (v : Int) (hr : Lib.parseIntB 64 t.data.toList = .ok v) :
    Calls Tryz.prog 159 #[.string t, .int .i64 10, .int .i64 64] w fun e w' => e = .returned (.tuple #[.int .i64 v, .nilIface]) ∧ Below w.heap.size w w' :=
  (Any.strconv_ParseInt_10_at64_ok Tryz.laysC174 t (by omega) v hr w).mono fun e w' ⟨he, hw⟩ => ⟨he, by
    rcases hw with rfl | ⟨s, rfl⟩
    · exact Below.refl _ _
    · exact Go.Lib.bytesWorld_below _ _ _⟩
def Failed (w : World) (e : Ending) (w' : World) : Prop := ∃ x N, e = .returned (.tuple #[.int .i64 x, .iface 201 (.pointer (some ⟨N, 0, none⟩))]) ∧ Below w.heap.size w w'
theorem i_Parse_err (t : ByteArray) (w : World) (hs : t.size ≤ 281474976710656) (he : Errs w) (hn : ∀ v, Lib.parseIntB 64 t.data.toList ≠ .ok v) :
    Calls Tryz.prog 159 #[.string t, .int .i64 10, .int .i64 64] w (Failed w) := by
  obtain ⟨⟨t1, p1, h1⟩, ⟨t2, p2, h2⟩⟩ := he
  rcases hr : Lib.parseIntB 64 t.data.toList with v | _ | _
  · exact absurd hr (hn v)
  · exact (Any.strconv_ParseInt_10_at64_syntax_var Tryz.laysC174 t hs hr t1 p1 w h1).mono fun e w' ⟨N, he, _, _, hb⟩ => ⟨_, N, he, hb⟩
  · exact (Any.strconv_ParseInt_10_at64_range_var Tryz.laysC174 t hs hr t2 p2 w h2).mono fun e w' ⟨N, he, _, _, hb⟩ => ⟨_, N, he, hb⟩
end Go.Proofs.YtggnhdeldmkdmaaGreatDoor
