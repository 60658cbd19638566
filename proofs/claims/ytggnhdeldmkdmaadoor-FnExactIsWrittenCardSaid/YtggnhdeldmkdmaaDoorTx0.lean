/- Numbers in decimal: strconv's FormatInt and the model's digits. -/
import Derived.Test.YtggnhdeldmkdmaaDoorNum0
import Derived.Test.YtggnhdeldmkdmaaDoorMathM
import Derived.Test.YtggnhdeldmkdmaaDoorShelf
import Derived.Deep.RegionWith
import Derived.WalkSmall
import Derived.WalkMore
import Derived.Outline
import Derived.Lib.SmallJoins
import Derived.Lib.AppendIntMem
namespace Go.Proofs.YtggnhdeldmkdmaaDoor
open Go.RowKit Go.Shelf
set_option maxHeartbeats 2000000
set_option linter.unusedVariables false
set_option linter.unusedSimpArgs false
theorem bcell {W w1 : World} (hb : Below W.heap.size W w1) : (∀ b o, b < W.heap.size → w1.cell? ⟨b, o, none⟩ = W.cell? ⟨b, o, none⟩) ∧ (∀ b o, b < W.heap.size → w1.frozen? ⟨b, o, none⟩ = W.frozen? ⟨b, o, none⟩) :=
  ⟨fun b o h => hb.cell (p := ⟨b, o, none⟩) h, fun b o h => hb.frozen (p := ⟨b, o, none⟩) h⟩
/-- a text by its bytes -/
def tx (l : List UInt8) : ByteArray := ⟨l.toArray⟩
/-- the table of powers that strconv reads -/
def Tab (w : World) : Prop := Lib.TabIs Tryd.prog w "internal/strconv.uint64pow10" .u64 Lib.pow10Tab
/-- 'it hands back the text l, and nothing that was there is turned' -/
def Texts (w : World) (l : List UInt8) (e : Ending) (w' : World) : Prop := e = .returned (.string (tx l)) ∧ Below w.heap.size w w'
def InI (n : Int) : Prop := -9223372036854775808 ≤ n ∧ n ≤ 9223372036854775807
theorem tx_app (a b : List UInt8) : tx a ++ tx b = tx (a ++ b) := by
  apply ByteArray.ext
  simp [tx, ByteArray.data_append]
theorem tx_size (l : List UInt8) : (tx l).size = l.length := rfl
theorem tx_dec (n : Nat) (h : n < 10000000000000000000) : (tx (Lib.decDigits n)).size ≤ 1000 := by
  have := dec_len 19 n h
  rw [tx_size]; omega
end Go.Proofs.YtggnhdeldmkdmaaDoor
