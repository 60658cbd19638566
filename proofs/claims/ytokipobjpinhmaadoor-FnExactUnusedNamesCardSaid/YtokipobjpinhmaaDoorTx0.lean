/- Numbers in decimal: strconv's FormatInt and the model's digits. -/
import Derived.Test.YtokipobjpinhmaaDoorNum0
import Derived.Test.YtokipobjpinhmaaDoorMathM
import Derived.Test.YtokipobjpinhmaaDoorShelf
import Derived.Deep.RegionWith
import Derived.WalkSmall
import Derived.WalkMore
import Derived.Outline
import Derived.Lib.SmallJoins
import Derived.Lib.AppendIntMem
namespace Go.Proofs.YtokipobjpinhmaaDoor
open Go.RowKit Go.Shelf
set_option maxHeartbeats 2000000
set_option linter.unusedVariables false
set_option linter.unusedSimpArgs false
theorem bcell {W w1 : World} (hb : Below W.heap.size W w1) : (∀ b o, b < W.heap.size → w1.cell? ⟨b, o, none⟩ = W.cell? ⟨b, o, none⟩) ∧ (∀ b o, b < W.heap.size → w1.frozen? ⟨b, o, none⟩ = W.frozen? ⟨b, o, none⟩) :=
  ⟨fun b o h => hb.cell (p := ⟨b, o, none⟩) h, fun b o h => hb.frozen (p := ⟨b, o, none⟩) h⟩
/-- a text by its bytes -/
def tx (l : List UInt8) : ByteArray := ⟨l.toArray⟩
/-- the table of powers that strconv reads -/
def Tab (w : World) : Prop := Lib.TabIs Tryd.prog w "internal/strconv.uint64pow10" .u64 Lib.pow10Tab
/-- 'it hands back the text l, and nothing that was there is turned' -/
def Texts (w : World) (l : List UInt8) (e : Ending) (w' : World) : Prop := e = .returned (.string (tx l)) ∧ Below w.heap.size w w'
theorem conv1 (x : Int) (h0 : 0 ≤ x) (h1 : x < 256) (W : World) (b : Nat) (hc : W.cell? ⟨b, 0, none⟩ = some (.int .u8 x)) :
    (convert 22 9 (.slice (some ⟨b, 0, none⟩) 1 1)).run Tryd.prog W = .ok (.string (tx [UInt8.ofNat x.toNat])) W := by
  refine run_convert_bytes_back (P := Tryd.prog) W 22 9 5 ⟨b, 0, none⟩ 1 [UInt8.ofNat x.toNat] Tryd.underlying22 Tryd.underlying5 Tryd.underlying9 ?_
  intro j hj
  have : j = 0 := by simpa using hj
  subst this
  rw [Addr.add_lit, hc]
  have : (UInt8.ofNat x.toNat).toNat = x.toNat := by simp; omega
  simp [this]; omega
def InI (n : Int) : Prop := -9223372036854775808 ≤ n ∧ n ≤ 9223372036854775807
theorem tx_app (a b : List UInt8) : tx a ++ tx b = tx (a ++ b) := by
  apply ByteArray.ext
  simp [tx, ByteArray.data_append]
theorem tx_size (l : List UInt8) : (tx l).size = l.length := rfl
theorem tx_dec (n : Nat) (h : n < 10000000000000000000) : (tx (Lib.decDigits n)).size ≤ 1000 := by
  have := dec_len 19 n h
  rw [tx_size]; omega
theorem s_Dec (k : Nat) : ∀ (n : Int) (w : World), 0 ≤ n → n < k → n ≤ 9223372036854775807 →
    Calls Tryd.prog 87 #[.int .i64 n] w (Texts w (Lib.decDigits n.toNat)) := by
  induction k with
  | zero => intro n w h0 h1; omega
  | succ k ih =>
    intro n w h0 h1 h2
    have IH := Lib.hid ih
    clear ih
    by_cases h : n < 10
    · have hcv := conv1 (48 + n) (by omega) (by omega)
      go_enter Tryd.func87, Tryd.ntmps87
      go_wp2
      go_ret
      refine ⟨congrArg (fun l => Ending.returned (.string (tx l))) (show [UInt8.ofNat (48 + n).toNat] = Lib.decDigits n.toNat from ?_), (Below.refl _ _).alloc (Nat.le_refl _) _⟩
      rw [Lib.decDigits, dif_pos (by omega), show (48 + n).toNat = 48 + n.toNat by omega]
    · have hcv := conv1 (48 + n % 10) (by omega) (by omega)
      have e1 : IntKind.i64.wrap (n.tdiv 10) = n / 10 := by rw [Int.tdiv_eq_ediv_of_nonneg h0, IntWalk.i64_in _ (by omega)]
      have e2 : n.tmod 10 = n % 10 := Int.tmod_eq_emod_of_nonneg h0
      have e3 : IntKind.i64.wrap (48 + n % 10) = 48 + n % 10 := IntWalk.i64_in _ (by omega)
      have hz : (tx (Lib.decDigits (n / 10).toNat)).size ≤ 1000 := tx_dec _ (by omega)
      have hz1 : (tx [UInt8.ofNat (48 + n % 10).toNat]).size = 1 := rfl
      have HZ1 := Lib.hid hz1
      have e4 : IntKind.u8.wrap (48 + n % 10) = 48 + n % 10 := IntWalk.u8_in _ (by omega)
      go_enter Tryd.func87, Tryd.ntmps87
      go_wp2
      go_region_with (go_at_call 87; refine (IH.out _ _ (by omega) (by omega) (by omega)).mono ?_; rintro e w1 ⟨rfl, hb⟩; obtain ⟨hc, hf⟩ := bcell hb)
      all_goals
        go_wp2
        go_ret
        refine ⟨(congrArg (fun s => Ending.returned (.string s)) (tx_app _ _)).trans (congrArg (fun l => Ending.returned (.string (tx l))) (show Lib.decDigits (n / 10).toNat ++ [UInt8.ofNat (48 + n % 10).toNat] = Lib.decDigits n.toNat from ?_)), ?_⟩
        · rw [Lib.decDigits.eq_def n.toNat, dif_neg (by omega), show (48 + n % 10).toNat = 48 + n.toNat % 10 by omega, show (n / 10).toNat = n.toNat / 10 by omega]
        · first
            | exact ((Below.refl _ w).drew.trans hb).alloc (by have := hb.size; simpa using this) _
            | exact (((Below.refl _ w).drew).alloc (by simp) _).trans (hb.mono (by simp))
end Go.Proofs.YtokipobjpinhmaaDoor
