/- The model's source out of a code; numbers picked and drawn. -/
import Derived.Test.YtpeebgkgccacbaaDraw
import Derived.RegionTactic
import Derived.ChangeAlike
namespace Go.Proofs.Ytpeebgkgccacbaa
open Go.RowKit
set_option maxHeartbeats 2000000
set_option linter.unusedVariables false
set_option linter.unusedSimpArgs false
/-- a slice of bytes that came in -/
def Bytes (w : World) (a : Option Addr) (len : Nat) : Prop :=
  len ≤ 9223372036854775807 ∧ ∀ k, k < len → ∃ b off x, a = some ⟨b, off, none⟩ ∧ w.cell? ⟨b, off + k, none⟩ = some (.int .u8 x) ∧ 0 ≤ x ∧ x ≤ 255
theorem bytes_code {w w' : World} {a : Option Addr} {len : Nat} (h : Bytes w a len) (hb : Below w.heap.size w w') : Code8 w' w.heap.size a len := by
  refine ⟨h.1, fun k hk => ?_⟩
  obtain ⟨b, off, x, rfl, hc, h0, h1⟩ := h.2 k hk
  have hl := cell_lt hc
  exact ⟨b, off, x, rfl, by omega, by rw [hb.cell (p := ⟨b, off + k, none⟩) hl]; exact hc, h0, h1⟩
def Began (w : World) (a : Option Addr) (len cap : Nat) (e : Ending) (w' : World) : Prop :=
  e = .returned (.pointer (some ⟨w.heap.size, 0, none⟩)) ∧ Src w' w.heap.size a len cap ∧ w.heap.size < w'.heap.size ∧ Below w.heap.size w w'
theorem s_From (a : Option Addr) (len cap : Nat) (w : World) (hs : Bytes w a len) :
    Calls Try.prog 18 #[.slice a len cap] w (Began w a len cap) := by
  have HS := Lib.hid hs
  have hl := hs.1
  clear hs
  go_enter Try.func18, Try.ntmps18
  go_wp2
  go_loopw [4] (fun i wr => ∃ (k : Nat) (s : Int), k ≤ len ∧ i = .int .i64 k ∧ 0 ≤ s ∧ s < 2147483647 ∧ wr.heap[w.heap.size]? = some (.cells #[.slice a len cap, .int .i64 0, .int .i64 s] 58 (0, 0)) ∧ Below w.heap.size w wr) (fun i _ => len - (intOf i).toNat)
  case atStart => exact ⟨0, 52021, by omega, rfl, by omega, by omega, heap_alloc_new w _, (Below.refl _ _).alloc (Nat.le_refl _) _⟩
  case round =>
    obtain ⟨k, s, hk, rfl, s0, s1, hb, hB⟩ := hrel
    have HB := Lib.hid hb
    have HW := Lib.hid hB
    have c2 : wr.cell? ⟨w.heap.size, 2, none⟩ = some (.int .i64 s) := by simp [World.cell?, hb]
    have f2 : wr.frozen? ⟨w.heap.size, 2, none⟩ = false := by simp [World.frozen?, hb]
    clear hb hB
    by_cases hlt : k < len ∧ k < 64
    · obtain ⟨h1, h2⟩ := hlt
      obtain ⟨b, off, x, rfl, hx0, x0, x1⟩ := HS.out.2 k h1
      have hx : wr.cell? ⟨b, off + k, none⟩ = some (.int .u8 x) := by rw [HW.out.cell (p := ⟨b, off + k, none⟩) (cell_lt hx0)]; exact hx0
      clear hx0
      go_wp2
      go_region
      go_wp2
      go_roundw
      case rel => exact ⟨k + 1, (s * 59 + x) % 2147483647, by omega, by go_num, by omega, by omega, set2 HB.out, (HW.out.drew.setCell (Nat.le_refl _) _)⟩
      case measure => simp [intOf]; omega
    · by_cases h1 : k < len
      · have h2 : decide (k < 64) = false := by simp; omega
        have h3 : ¬ k < 64 := by omega
        clear hlt
        go_wp2
        go_ret
        exact ⟨rfl, ⟨⟨0, s, by omega, s0, s1, HB.out⟩, bytes_code HS.out HW.out⟩, cell_lt c2, HW.out⟩
      · clear hlt
        go_wp2
        go_ret
        exact ⟨rfl, ⟨⟨0, s, by omega, s0, s1, HB.out⟩, bytes_code HS.out HW.out⟩, cell_lt c2, HW.out⟩
/-- what a draw leaves: the source, and everything else as it was -/
def Drawn (w : World) (B : Nat) (a : Option Addr) (len cap : Nat) (P : Int → Prop) (e : Ending) (w' : World) : Prop :=
  ∃ r : Int, e = .returned (.int .i64 r) ∧ P r ∧ Src w' B a len cap ∧ w.grownBy w' (some B)
theorem Src.lt {w : World} {B : Nat} {a : Option Addr} {len cap : Nat} (h : Src w B a len cap) : B < w.heap.size := by
  obtain ⟨⟨p, s, _, _, _, hb⟩, _⟩ := h
  exact (Array.getElem?_eq_some_iff.1 hb).1
theorem Src.drewN {w : World} {B : Nat} {a : Option Addr} {len cap : Nat} (h : Src w B a len cap) (q : Nat) : Src (w.drewN q) B a len cap := h
theorem Src.alloc {w : World} {B : Nat} {a : Option Addr} {len cap : Nat} (h : Src w B a len cap) (o : Obj) : Src (w.alloc o) B a len cap := by
  have hB := h.lt
  obtain ⟨⟨p, s, h1, h2, h3, hb⟩, hc⟩ := h
  refine ⟨⟨p, s, h1, h2, h3, by rw [← hb]; exact Below.heap_alloc w o B hB⟩, hc.kept (World.grownBy_alloc w o _)⟩
/-- the source outlives writes to other blocks -/
theorem Src.kept {w w' : World} {B : Nat} {a : Option Addr} {len cap : Nat} {row : Option Nat} (h : Src w B a len cap) (hg : w.grownBy w' row) (hB : some B ≠ row) (hr : ∀ x, a = some x → some x.block ≠ row) : Src w' B a len cap := by
  have hlt := h.lt
  obtain ⟨⟨p, s, h1, h2, h3, hb⟩, hc⟩ := h
  refine ⟨⟨p, s, h1, h2, h3, by rw [← hb]; exact hg.block B hlt hB⟩, hc.1, fun k hk => ?_⟩
  obtain ⟨b, off, x, rfl, hne, hx, x0, x1⟩ := hc.2 k hk
  exact ⟨b, off, x, rfl, hne, hg.cell hx (hr ⟨b, off, none⟩ rfl), x0, x1⟩
theorem s_Pick (B : Nat) (a : Option Addr) (len cap : Nat) (b : Addr) (n m : Nat) (l : List Int) (w : World) (hs : Src w B a len cap) (hl : Sl w (some b) n l) (hb : b.block ≠ B) (hn : 1 ≤ n) :
    Calls Try.prog 19 #[.pointer (some ⟨B, 0, none⟩), .slice (some b) n m] w (Drawn w B a len cap (fun r => r ∈ l)) := by
  have HS := Lib.hid hs
  have HL := Lib.hid hl
  have HB := Lib.hid hb
  have hn2 := hl.2.1
  clear hs hl hb
  go_enter Try.func19, Try.ntmps19
  go_wp2_with fail
  refine (s_Next B a len cap n w HS.out (by omega) (by omega)).mono ?_
  rintro e w' ⟨r, rfl, r0, r1, r2, src, gr⟩
  have hr : r < n := by
    by_cases h : 1 < n
    · exact r1 (by omega)
    · have := r2 (by omega); omega
  obtain ⟨k, rfl⟩ := Int.eq_ofNat_of_zero_le r0
  have hk : k < n := by omega
  obtain ⟨bb, off, hbb, hc⟩ := HL.out.2.2.1 k hk
  simp only [Option.some.injEq] at hbb
  subst hbb
  have hc' : w'.cell? ⟨bb, off + k, none⟩ = some (.int .i64 (gx l k)) := gr.cell hc (by simpa using HB.out)
  have HG := Lib.hid gr; have HR := Lib.hid src
  have HM := Lib.hid (gx_mem l k (by rw [HL.out.1]; exact hk))
  clear gr src r1 r2 hc
  go_wp2
  go_ret
  exact ⟨_, rfl, HM.out, HR.out, HG.out⟩
theorem Src.kept2 {w w' : World} {B : Nat} {a : Option Addr} {len cap : Nat} {row : Option Nat} (h : Src w B a len cap) (hab : 0 < len → ∀ x, a = some x → x.block < B) (hg : w.grownBy w' row) (hr : ∀ k, row = some k → B < k) : Src w' B a len cap := by
  have hlt := h.lt
  obtain ⟨⟨p, s, h1, h2, h3, hb⟩, hc⟩ := h
  refine ⟨⟨p, s, h1, h2, h3, by rw [← hb]; exact hg.block B hlt (fun e => by have := hr B e.symm; omega)⟩, hc.1, fun k hk => ?_⟩
  obtain ⟨b, off, x, rfl, hne, hx, x0, x1⟩ := hc.2 k hk
  exact ⟨b, off, x, rfl, hne, hg.cell hx (fun e => by have := hr b e.symm; have := hab (by omega) ⟨b, off, none⟩ rfl; simp at this; omega), x0, x1⟩
theorem Bytes.low {w : World} {a : Option Addr} {len : Nat} (h : Bytes w a len) : 0 < len → ∀ x, a = some x → x.block < w.heap.size := by
  intro hl x hx
  obtain ⟨b, off, y, hb, hc, _⟩ := h.2 0 hl
  rw [hx] at hb; cases hb
  exact cell_lt hc
theorem Bytes.later {w w' : World} {a : Option Addr} {len : Nat} (h : Bytes w a len) (hb : Below w.heap.size w w') : Bytes w' a len := by
  refine ⟨h.1, fun k hk => ?_⟩
  obtain ⟨b, off, x, rfl, hc, x0, x1⟩ := h.2 k hk
  exact ⟨b, off, x, rfl, by rw [hb.cell (p := ⟨b, off + k, none⟩) (cell_lt hc)]; exact hc, x0, x1⟩
end Go.Proofs.Ytpeebgkgccacbaa
