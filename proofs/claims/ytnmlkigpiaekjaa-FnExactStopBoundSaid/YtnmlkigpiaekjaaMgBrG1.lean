/- The model's source of drawn numbers: whatever the bytes are, it hands out numbers within their range and touches nothing but itself. | The model's source out of a code; numbers picked and drawn. | Slices that came in, as the shell of a proof says them. | Segments and layouts that came in, opened to cells. | Contracts of chapter 3: segments that are valid, segments that hold: the model's functions. | Segments that hold, of the model. | Contracts of chapter 3: layouts: the model's functions. | The length of a track, of the model. | Contracts of chapter 1's divisions that later chapters use: rounded down. | Contracts of chapter 3: positions, heights and beginnings: the model's functions. | What hands back the beginnings of segments. | Contracts of chapter 3: beginnings of segments: the model's functions. | Contracts of chapter 4: the model's functions. | Contracts of chapter 4: the model's look-ups. | Contracts of chapter 7: may a train enter a block, of the program. | Contracts of chapter 1's divisions, of the program and of the model. | Contracts of the roots. | Contracts of chapter 6: the model's functions on one segment. | Contracts of chapter 6: the model's speeds, verdicts, energies behind a segment. | Contracts of chapter 7: the model's functions on one brake. | Contracts of chapter 7: the model's verdict on a stop. | Contracts of chapter 6: runs, and the energy that is needed: the model's functions. | Contracts of chapter 6: the energy that is needed: the model's functions. | Contracts of chapter 7: the energies with which a train may enter a block, of the model. | Contracts of chapter 7: entry bounds, may a train enter, of the model. | Slices of int64 compared, as the exact laws do. | Copies of slices of int64 and their comparison, as the exact laws make them. | Copies of slices of segments, as the exact laws make them. | Small facts of the exact laws on layouts. | Small tools of the walks of exact laws (gen/gen_exact.py). | Marks that the exact laws write into lists of int64, and find again. | Copies of slices of int64 that may be written; marks from any number on. | Contracts of chapter 2: the model's functions. | The walks of the exact laws of chapter 2. | The walks of the exact laws of chapter 7 on entries into blocks. | Contracts of chapter 9: the energy at the end of a run, of the program. | Contracts of chapter 7: where a train that may enter a block stops, of the program. | Contracts of chapter 7: the bound of a stop, of the program. -/
import Derived.Test.YtnmlkigpiaekjaaSl
import Derived.Test.YtnmlkigpiaekjaaGrown
import Derived.WalkSmall
import Derived.RegionTactic
import Derived.ChangeAlike
import Derived.Test.YtnmlkigpiaekjaaSgs
import Derived.Deep.Slices
import Derived.ChangeSame
import Derived.Test.YtnmlkigpiaekjaaIvN
import Derived.Test.YtnmlkigpiaekjaaSgM
import Derived.BigQuiet
import Derived.Deep.QuietTactic
import Derived.Test.YtnmlkigpiaekjaaOwn
import Derived.IntWalk
import Derived.Test.YtnmlkigpiaekjaaNum0
import Derived.Deep.DeepMust
import Derived.Test.YtnmlkigpiaekjaaBkA
import Derived.Test.YtnmlkigpiaekjaaHeld
import Derived.Laws.OwnMore
import Derived.Test.YtnmlkigpiaekjaaBrP
import Derived.Outline
import Derived.WalkMore
import Derived.Test.YtnmlkigpiaekjaaEnK
import Derived.Deep.RegionWith
import Derived.Test.YtnmlkigpiaekjaaBrJ
import Derived.Test.YtnmlkigpiaekjaaEnP
import Derived.Test.YtnmlkigpiaekjaaSgK
import Derived.OwnWalk
import Derived.Test.YtnmlkigpiaekjaaIv3
import Derived.Test.YtnmlkigpiaekjaaIvL
import Derived.Test.YtnmlkigpiaekjaaMarkS
import Derived.Test.YtnmlkigpiaekjaaTrI
import Derived.Test.YtnmlkigpiaekjaaEnA
import Derived.Test.YtnmlkigpiaekjaaEnC
import Derived.Deep.RegionHeld3
namespace Go.Proofs.Ytnmlkigpiaekjaa
open Go.RowKit
set_option maxHeartbeats 2000000
set_option linter.unusedVariables false
set_option linter.unusedSimpArgs false
/-- the bytes of the code, seen from a source in block B -/
def Code8 (w : World) (B : Nat) (a : Option Addr) (len : Nat) : Prop :=
  len ≤ 9223372036854775807 ∧ ∀ k, k < len → ∃ b off x, a = some ⟨b, off, none⟩ ∧ b ≠ B ∧ w.cell? ⟨b, off + k, none⟩ = some (.int .u8 x) ∧ 0 ≤ x ∧ x ≤ 255
def Src (w : World) (B : Nat) (a : Option Addr) (len cap : Nat) : Prop :=
  (∃ (p : Nat) (s : Int), p ≤ len ∧ 0 ≤ s ∧ s < 2147483647 ∧ w.heap[B]? = some (.cells #[.slice a len cap, .int .i64 p, .int .i64 s] 108 (0, 0))) ∧ Code8 w B a len
theorem Code8.kept {w w' : World} {B : Nat} {a : Option Addr} {len : Nat} (h : Code8 w B a len) (hg : w.grownBy w' (some B)) : Code8 w' B a len := by
  refine ⟨h.1, fun k hk => ?_⟩
  obtain ⟨b, off, x, rfl, hb, hc, h0, h1⟩ := h.2 k hk
  exact ⟨b, off, x, rfl, hb, hg.cell hc (by simpa using hb), h0, h1⟩
theorem set2 {w : World} {B : Nat} {c0 c1 c2 u : Value} {T : TypeId} (h : w.heap[B]? = some (.cells #[c0, c1, c2] T (0, 0))) : (w.setCell ⟨B, 2, none⟩ u).heap[B]? = some (.cells #[c0, c1, u] T (0, 0)) := by
  rw [heap_setCell_same w B 2 _ T u h]; rfl
theorem set1 {w : World} {B : Nat} {c0 c1 c2 u : Value} {T : TypeId} (h : w.heap[B]? = some (.cells #[c0, c1, c2] T (0, 0))) : (w.setCell ⟨B, 1, none⟩ u).heap[B]? = some (.cells #[c0, u, c2] T (0, 0)) := by
  rw [heap_setCell_same w B 1 _ T u h]; rfl
def Nexted (w : World) (B : Nat) (a : Option Addr) (len cap : Nat) (n : Int) (e : Ending) (w' : World) : Prop :=
  ∃ r : Int, e = .returned (.int .i64 r) ∧ 0 ≤ r ∧ (1 < n → r < n) ∧ (n ≤ 1 → r = 0) ∧ Src w' B a len cap ∧ w.grownBy w' (some B)
theorem next_fin0 {w : World} {B : Nat} {a : Option Addr} {len cap p : Nat} {s s' : Int} (q : Nat) (hb : w.heap[B]? = some (.cells #[.slice a len cap, .int .i64 p, .int .i64 s] 108 (0, 0))) (hc : Code8 w B a len) (hp : p ≤ len) (s0 : 0 ≤ s') (s1 : s' < 2147483647) :
    Src ((w.setCell ⟨B, 2, none⟩ (.int .i64 s')).drewN q) B a len cap ∧ w.grownBy ((w.setCell ⟨B, 2, none⟩ (.int .i64 s')).drewN q) (some B) := by
  have g : w.grownBy ((w.setCell ⟨B, 2, none⟩ (.int .i64 s')).drewN q) (some B) := grown_trans (grown_set _ _ _ _) (grown_drewN _ _ _)
  exact ⟨⟨⟨p, s', hp, s0, s1, set2 hb⟩, hc.kept g⟩, g⟩
theorem next_fin {w : World} {B : Nat} {a : Option Addr} {len cap p : Nat} {s s' x : Int} (q q' : Nat) (hb : w.heap[B]? = some (.cells #[.slice a len cap, .int .i64 p, .int .i64 s] 108 (0, 0))) (hc : Code8 w B a len) (hp : p + 1 ≤ len) (hx : x = ((p + 1 : Nat) : Int)) (s0 : 0 ≤ s') (s1 : s' < 2147483647) :
    Src ((((w.setCell ⟨B, 2, none⟩ (.int .i64 s')).drewN q).setCell ⟨B, 1, none⟩ (.int .i64 x)).drewN q') B a len cap ∧ w.grownBy ((((w.setCell ⟨B, 2, none⟩ (.int .i64 s')).drewN q).setCell ⟨B, 1, none⟩ (.int .i64 x)).drewN q') (some B) := by
  have g : w.grownBy ((((w.setCell ⟨B, 2, none⟩ (.int .i64 s')).drewN q).setCell ⟨B, 1, none⟩ (.int .i64 x)).drewN q') (some B) :=
    grown_trans (grown_trans (grown_trans (grown_set _ _ _ _) (grown_drewN _ _ _)) (grown_set _ _ _ _)) (grown_drewN _ _ _)
  subst hx
  exact ⟨⟨⟨p + 1, s', hp, s0, s1, set1 (show ((w.setCell ⟨B, 2, none⟩ (.int .i64 s')).drewN q).heap[B]? = _ from set2 hb)⟩, hc.kept g⟩, g⟩
theorem s_Next (B : Nat) (a : Option Addr) (len cap : Nat) (n : Int) (w : World) (hs : Src w B a len cap) (hn : -9223372036854775808 ≤ n) (hn2 : n ≤ 9223372036854775807) :
    Calls Try.prog 40 #[.pointer (some ⟨B, 0, none⟩), .int .i64 n] w (Nexted w B a len cap n) := by
  have HS := Lib.hid hs
  obtain ⟨⟨p, s, p1, s0, s1, hb⟩, hcode⟩ := hs
  have HB := Lib.hid hb
  have HC := Lib.hid hcode
  have hl := hcode.1
  clear hcode
  have c0 : w.cell? ⟨B, 0, none⟩ = some (.slice a len cap) := by simp [World.cell?, hb]
  have c1 : w.cell? ⟨B, 1, none⟩ = some (.int .i64 p) := by simp [World.cell?, hb]
  have c2 : w.cell? ⟨B, 2, none⟩ = some (.int .i64 s) := by simp [World.cell?, hb]
  have f1 : w.frozen? ⟨B, 1, none⟩ = false := by simp [World.frozen?, hb]
  have f2 : w.frozen? ⟨B, 2, none⟩ = false := by simp [World.frozen?, hb]
  clear hb
  by_cases h1 : n ≤ 1
  · go_enter Try.func40, Try.ntmps40
    go_wp2
    go_ret
    exact ⟨0, rfl, by omega, fun h => by omega, fun _ => rfl, HS.out, ⟨rfl, rfl, rfl, Nat.le_refl _, fun _ _ _ => rfl⟩⟩
  · have hm : 0 ≤ (s * 48271 + 29) % 2147483647 / 31 := by omega
    have mod_bd : ∀ x : Int, 0 ≤ x → 0 ≤ x % n ∧ x % n < n := fun x hx => ⟨Int.emod_nonneg _ (by omega), Int.emod_lt_of_pos _ (by omega)⟩
    have MB := Lib.hid mod_bd
    clear mod_bd
    by_cases h2 : p < len
    · obtain ⟨b, off, x, rfl, hne, hx, x0, x1⟩ := HC.out.2 p h2
      by_cases h3 : n ≤ 256
      · have d3 : decide (n ≤ 256) = true := by simpa using h3
        by_cases h4 : (p + 1) % 2 = 0
        · have d4 : (((p : Int) + 1) % 2 == 0) = true := by simp; omega
          go_enter Try.func40, Try.ntmps40
          go_wp2
          go_quiet (fail)
          go_wp2
          go_quiet (fail)
          go_wp2
          go_quiet (fail)
          go_wp2
          go_ret
          obtain ⟨r0, r1⟩ := MB.out x x0
          obtain ⟨f1, f2⟩ := next_fin _ _ HB.out HC.out (show p + 1 ≤ len by omega) (show (p : Int) + 1 = _ by omega) (show 0 ≤ (s * 48271 + 29) % 2147483647 by omega) (by omega)
          exact ⟨_, rfl, r0, fun _ => r1, fun h => by omega, f1, f2⟩
        · have d4 : (((p : Int) + 1) % 2 == 0) = false := by simp; omega
          have hm2 : 0 ≤ (s * 48271 + 29) % 2147483647 / 31 + x := by omega
          go_enter Try.func40, Try.ntmps40
          go_wp2
          go_quiet (fail)
          go_wp2
          go_quiet (fail)
          go_wp2
          go_ret
          obtain ⟨r0, r1⟩ := MB.out _ hm2
          obtain ⟨f1, f2⟩ := next_fin _ 0 HB.out HC.out (show p + 1 ≤ len by omega) (show (p : Int) + 1 = _ by omega) (show 0 ≤ (s * 48271 + 29) % 2147483647 by omega) (by omega)
          exact ⟨_, rfl, r0, fun _ => r1, fun h => by omega, f1, f2⟩
      · have d3 : decide (n ≤ 256) = false := by simpa using h3
        have hm2 : 0 ≤ (s * 48271 + 29) % 2147483647 / 31 + x := by omega
        go_enter Try.func40, Try.ntmps40
        go_wp2
        go_quiet (fail)
        go_wp2
        go_quiet (fail)
        go_wp2
        go_ret
        obtain ⟨r0, r1⟩ := MB.out _ hm2
        obtain ⟨f1, f2⟩ := next_fin _ 0 HB.out HC.out (show p + 1 ≤ len by omega) (show (p : Int) + 1 = _ by omega) (show 0 ≤ (s * 48271 + 29) % 2147483647 by omega) (by omega)
        exact ⟨_, rfl, r0, fun _ => r1, fun h => by omega, f1, f2⟩
    · go_enter Try.func40, Try.ntmps40
      go_wp2
      go_quiet (fail)
      go_wp2
      go_ret
      obtain ⟨r0, r1⟩ := MB.out _ hm
      obtain ⟨f1, f2⟩ := next_fin0 _ HB.out HC.out p1 (show 0 ≤ (s * 48271 + 29) % 2147483647 by omega) (by omega)
      exact ⟨_, rfl, r0, fun _ => r1, fun h => by omega, f1, f2⟩
end Go.Proofs.Ytnmlkigpiaekjaa
namespace Go.Proofs.Ytnmlkigpiaekjaa
open Go.RowKit
set_option maxHeartbeats 2000000
set_option linter.unusedVariables false
set_option linter.unusedSimpArgs false
/-- a slice of bytes that came in -/
def Bytes (w : World) (a : Option Addr) (len : Nat) : Prop :=
  len ≤ 9223372036854775807 ∧ ∀ k, k < len → ∃ b off x, a = some ⟨b, off, none⟩ ∧ w.cell? ⟨b, off + k, none⟩ = some (.int .u8 x) ∧ 0 ≤ x ∧ x ≤ 255
theorem bytes_code {w w' : World} {a : Option Addr} {len : Nat} (h : Bytes w a len) (hb : Below w.heap.size w w') : Code8 w' w.heap.size a len := by
  refine ⟨h.1, fun k hk => ?_⟩
  obtain ⟨b, off, x, rfl, hc, h0, h1⟩ := h.2 k hk
  have hl := cell_lt hc
  exact ⟨b, off, x, rfl, by omega, by rw [hb.cell (p := ⟨b, off + k, none⟩) hl]; exact hc, h0, h1⟩
def Began (w : World) (a : Option Addr) (len cap : Nat) (e : Ending) (w' : World) : Prop :=
  e = .returned (.pointer (some ⟨w.heap.size, 0, none⟩)) ∧ Src w' w.heap.size a len cap ∧ w.heap.size < w'.heap.size ∧ Below w.heap.size w w'
theorem s_From (a : Option Addr) (len cap : Nat) (w : World) (hs : Bytes w a len) :
    Calls Try.prog 35 #[.slice a len cap] w (Began w a len cap) := by
  have HS := Lib.hid hs
  have hl := hs.1
  clear hs
  go_enter Try.func35, Try.ntmps35
  go_wp2
  go_loopw [4] (fun i wr => ∃ (k : Nat) (s : Int), k ≤ len ∧ i = .int .i64 k ∧ 0 ≤ s ∧ s < 2147483647 ∧ wr.heap[w.heap.size]? = some (.cells #[.slice a len cap, .int .i64 0, .int .i64 s] 108 (0, 0)) ∧ Below w.heap.size w wr) (fun i _ => len - (intOf i).toNat)
  case atStart => exact ⟨0, 52021, by omega, rfl, by omega, by omega, heap_alloc_new w _, (Below.refl _ _).alloc (Nat.le_refl _) _⟩
  case round =>
    obtain ⟨k, s, hk, rfl, s0, s1, hb, hB⟩ := hrel
    have HB := Lib.hid hb
    have HW := Lib.hid hB
    have c2 : wr.cell? ⟨w.heap.size, 2, none⟩ = some (.int .i64 s) := by simp [World.cell?, hb]
    have f2 : wr.frozen? ⟨w.heap.size, 2, none⟩ = false := by simp [World.frozen?, hb]
    clear hb hB
    by_cases hlt : k < len ∧ k < 64
    · obtain ⟨h1, h2⟩ := hlt
      obtain ⟨b, off, x, rfl, hx0, x0, x1⟩ := HS.out.2 k h1
      have hx : wr.cell? ⟨b, off + k, none⟩ = some (.int .u8 x) := by rw [HW.out.cell (p := ⟨b, off + k, none⟩) (cell_lt hx0)]; exact hx0
      clear hx0
      go_wp2
      go_region
      go_wp2
      go_roundw
      case rel => exact ⟨k + 1, (s * 59 + x) % 2147483647, by omega, by go_num, by omega, by omega, set2 HB.out, (HW.out.drew.setCell (Nat.le_refl _) _)⟩
      case measure => simp [intOf]; omega
    · by_cases h1 : k < len
      · have h2 : decide (k < 64) = false := by simp; omega
        have h3 : ¬ k < 64 := by omega
        clear hlt
        go_wp2
        go_ret
        exact ⟨rfl, ⟨⟨0, s, by omega, s0, s1, HB.out⟩, bytes_code HS.out HW.out⟩, cell_lt c2, HW.out⟩
      · clear hlt
        go_wp2
        go_ret
        exact ⟨rfl, ⟨⟨0, s, by omega, s0, s1, HB.out⟩, bytes_code HS.out HW.out⟩, cell_lt c2, HW.out⟩
/-- what a draw leaves: the source, and everything else as it was -/
def Drawn (w : World) (B : Nat) (a : Option Addr) (len cap : Nat) (P : Int → Prop) (e : Ending) (w' : World) : Prop :=
  ∃ r : Int, e = .returned (.int .i64 r) ∧ P r ∧ Src w' B a len cap ∧ w.grownBy w' (some B)
theorem Src.lt {w : World} {B : Nat} {a : Option Addr} {len cap : Nat} (h : Src w B a len cap) : B < w.heap.size := by
  obtain ⟨⟨p, s, _, _, _, hb⟩, _⟩ := h
  exact (Array.getElem?_eq_some_iff.1 hb).1
theorem Src.drewN {w : World} {B : Nat} {a : Option Addr} {len cap : Nat} (h : Src w B a len cap) (q : Nat) : Src (w.drewN q) B a len cap := h
theorem Src.alloc {w : World} {B : Nat} {a : Option Addr} {len cap : Nat} (h : Src w B a len cap) (o : Obj) : Src (w.alloc o) B a len cap := by
  have hB := h.lt
  obtain ⟨⟨p, s, h1, h2, h3, hb⟩, hc⟩ := h
  refine ⟨⟨p, s, h1, h2, h3, by rw [← hb]; exact Below.heap_alloc w o B hB⟩, hc.kept (World.grownBy_alloc w o _)⟩
/-- the source outlives writes to other blocks -/
theorem Src.kept {w w' : World} {B : Nat} {a : Option Addr} {len cap : Nat} {row : Option Nat} (h : Src w B a len cap) (hg : w.grownBy w' row) (hB : some B ≠ row) (hr : ∀ x, a = some x → some x.block ≠ row) : Src w' B a len cap := by
  have hlt := h.lt
  obtain ⟨⟨p, s, h1, h2, h3, hb⟩, hc⟩ := h
  refine ⟨⟨p, s, h1, h2, h3, by rw [← hb]; exact hg.block B hlt hB⟩, hc.1, fun k hk => ?_⟩
  obtain ⟨b, off, x, rfl, hne, hx, x0, x1⟩ := hc.2 k hk
  exact ⟨b, off, x, rfl, hne, hg.cell hx (hr ⟨b, off, none⟩ rfl), x0, x1⟩
theorem s_Pick (B : Nat) (a : Option Addr) (len cap : Nat) (b : Addr) (n m : Nat) (l : List Int) (w : World) (hs : Src w B a len cap) (hl : Sl w (some b) n l) (hb : b.block ≠ B) (hn : 1 ≤ n) :
    Calls Try.prog 71 #[.pointer (some ⟨B, 0, none⟩), .slice (some b) n m] w (Drawn w B a len cap (fun r => r ∈ l)) := by
  have HS := Lib.hid hs
  have HL := Lib.hid hl
  have HB := Lib.hid hb
  have hn2 := hl.2.1
  clear hs hl hb
  go_enter Try.func71, Try.ntmps71
  go_wp2_with fail
  refine (s_Next B a len cap n w HS.out (by omega) (by omega)).mono ?_
  rintro e w' ⟨r, rfl, r0, r1, r2, src, gr⟩
  have hr : r < n := by
    by_cases h : 1 < n
    · exact r1 (by omega)
    · have := r2 (by omega); omega
  obtain ⟨k, rfl⟩ := Int.eq_ofNat_of_zero_le r0
  have hk : k < n := by omega
  obtain ⟨bb, off, hbb, hc⟩ := HL.out.2.2.1 k hk
  simp only [Option.some.injEq] at hbb
  subst hbb
  have hc' : w'.cell? ⟨bb, off + k, none⟩ = some (.int .i64 (gx l k)) := gr.cell hc (by simpa using HB.out)
  have HG := Lib.hid gr; have HR := Lib.hid src
  have HM := Lib.hid (gx_mem l k (by rw [HL.out.1]; exact hk))
  clear gr src r1 r2 hc
  go_wp2
  go_ret
  exact ⟨_, rfl, HM.out, HR.out, HG.out⟩
theorem Src.kept2 {w w' : World} {B : Nat} {a : Option Addr} {len cap : Nat} {row : Option Nat} (h : Src w B a len cap) (hab : 0 < len → ∀ x, a = some x → x.block < B) (hg : w.grownBy w' row) (hr : ∀ k, row = some k → B < k) : Src w' B a len cap := by
  have hlt := h.lt
  obtain ⟨⟨p, s, h1, h2, h3, hb⟩, hc⟩ := h
  refine ⟨⟨p, s, h1, h2, h3, by rw [← hb]; exact hg.block B hlt (fun e => by have := hr B e.symm; omega)⟩, hc.1, fun k hk => ?_⟩
  obtain ⟨b, off, x, rfl, hne, hx, x0, x1⟩ := hc.2 k hk
  exact ⟨b, off, x, rfl, hne, hg.cell hx (fun e => by have := hr b e.symm; have := hab (by omega) ⟨b, off, none⟩ rfl; simp at this; omega), x0, x1⟩
theorem Bytes.low {w : World} {a : Option Addr} {len : Nat} (h : Bytes w a len) : 0 < len → ∀ x, a = some x → x.block < w.heap.size := by
  intro hl x hx
  obtain ⟨b, off, y, hb, hc, _⟩ := h.2 0 hl
  rw [hx] at hb; cases hb
  exact cell_lt hc
theorem Bytes.later {w w' : World} {a : Option Addr} {len : Nat} (h : Bytes w a len) (hb : Below w.heap.size w w') : Bytes w' a len := by
  refine ⟨h.1, fun k hk => ?_⟩
  obtain ⟨b, off, x, rfl, hc, x0, x1⟩ := h.2 k hk
  exact ⟨b, off, x, rfl, by rw [hb.cell (p := ⟨b, off + k, none⟩) (cell_lt hc)]; exact hc, x0, x1⟩
end Go.Proofs.Ytnmlkigpiaekjaa
namespace Go.Proofs.Ytnmlkigpiaekjaa
open Go.RowKit
set_option maxHeartbeats 2000000
set_option linter.unusedVariables false
set_option linter.unusedSimpArgs false
/-- a slice of integers that came in, as the shell of a proof says it -/
def IsRow (k : IntKind) (w : World) (a : Option Addr) (len cap : Nat) (zs : List Int) : Prop :=
  (a = none ∧ len = 0 ∧ cap = 0 ∧ zs = []) ∨
  ∃ x, a = some x ∧ len ≤ cap ∧ cap ≤ maxLen ∧ zs.length = cap ∧ (∀ i, i < zs.length → w.cell? (x.add i) = some (.int k (zs.getD i 0))) ∧ ∀ n ∈ zs, (Lit.int k n).wf = true
theorem isRow_sl {w : World} {a : Option Addr} {len cap : Nat} {zs : List Int} (h : IsRow .i64 w a len cap zs) : Sl w a len (zs.take len) := by
  rcases h with ⟨rfl, rfl, rfl, rfl⟩ | ⟨x, rfl, hl, hm, hz, hc, hw⟩
  · exact ⟨rfl, by omega, fun k hk => absurd hk (by omega), fun x hx => by simp at hx⟩
  · unfold maxLen at hm
    refine ⟨by rw [List.length_take]; omega, by omega, fun k hk => ?_, fun y hy => ?_⟩
    · have h0 := hc 0 (by omega)
      have hk0 := hc k (by omega)
      obtain ⟨b, off, spot⟩ := x
      have hspot : spot = none := by simpa [Addr.add] using World.cell?_spot h0
      subst hspot
      rw [Addr.add_lit] at hk0
      exact ⟨b, off, rfl, by rw [gx_take _ _ _ hk]; exact hk0⟩
    · have := hw y (List.mem_of_mem_take hy)
      simp [Lit.wf, IntKind.min, IntKind.max, IntKind.signed, IntKind.bits] at this
      exact this
theorem isRow_bytes {w : World} {a : Option Addr} {len cap : Nat} {zs : List Int} (h : IsRow .u8 w a len cap zs) : Bytes w a len := by
  rcases h with ⟨rfl, rfl, rfl, rfl⟩ | ⟨x, rfl, hl, hm, hz, hc, hw⟩
  · exact ⟨by omega, fun k hk => absurd hk (by omega)⟩
  · unfold maxLen at hm
    refine ⟨by omega, fun k hk => ?_⟩
    have h0 := hc 0 (by omega)
    have hk0 := hc k (by omega)
    obtain ⟨b, off, spot⟩ := x
    have hspot : spot = none := by simpa [Addr.add] using World.cell?_spot h0
    subst hspot
    rw [Addr.add_lit] at hk0
    have hb := hw (zs.getD k 0) (show gx zs k ∈ zs from gx_mem zs k (by omega))
    simp [Lit.wf, IntKind.min, IntKind.max, IntKind.signed, IntKind.bits] at hb
    exact ⟨b, off, zs.getD k 0, rfl, hk0, by simpa using hb.1, by simpa using hb.2⟩
end Go.Proofs.Ytnmlkigpiaekjaa
namespace Go.Proofs.Ytnmlkigpiaekjaa
open Go.RowKit Go.ChangeShapes Go.WideShapes Go.Deep
set_option maxHeartbeats 2000000
set_option maxRecDepth 100000
set_option linter.unusedVariables false
set_option linter.unusedSimpArgs false
section
variable {H : Type} {enc : TypeId × Value → H} {w : World} {base : Nat} {spare : Nat → Bool} {held : Bool}
theorem one_at {cs : List Value} {o : Nat} {v : Value} (h : (cs.drop o).take 1 = [v]) : cs[o]? = some v := by
  have := congrArg (fun l => l[0]?) h
  simpa using this
theorem two_at {cs : List Value} {o : Nat} {u v : Value} (h : (cs.drop o).take 2 = [u, v]) : cs[o]? = some u ∧ cs[o + 1]? = some v := by
  have h0 := congrArg (fun l => l[0]?) h
  have h1 := congrArg (fun l => l[1]?) h
  exact ⟨by simpa using h0, by simpa using h1⟩
theorem cells_i64 : Try.prog.cellsOf 2 = 1 := by kernel_rfl
theorem cells_liv : Try.prog.cellsOf 46 = 2 := by kernel_rfl
theorem cells_lseg : Try.prog.cellsOf 116 = 7 := by kernel_rfl
theorem i64_of_wf {a : Int} (h : (Lit.int .i64 a).wf = true) : -9223372036854775808 ≤ a ∧ a ≤ 9223372036854775807 := by
  simpa [Lit.wf, IntKind.min, IntKind.max, IntKind.signed, IntKind.bits] using h
theorem fld_int {n : Nat} {cs : List Value} {y : DataW H × List MemPlace} (h : DataW.trod enc Try.prog w base spare held n 2 cs = some y) : ∃ a : Int, cs = [.int .i64 a] ∧ -9223372036854775808 ≤ a ∧ a ≤ 9223372036854775807 := by
  obtain ⟨a, e, _, hw⟩ := DataW.trod_int Try.underlying2 h
  exact ⟨a, e, i64_of_wf hw⟩
theorem fld_iv {n : Nat} {cs : List Value} {y : DataW H × List MemPlace} (h : DataW.trod enc Try.prog w base spare held n 46 cs = some y) :
    ∃ a b : Int, cs = [.int .i64 a, .int .i64 b] ∧ (-9223372036854775808 ≤ a ∧ a ≤ 9223372036854775807) ∧ (-9223372036854775808 ≤ b ∧ b ≤ 9223372036854775807) := by
  obtain ⟨xs, m, _, _, hl, hlen, hf⟩ := DataW.trod_struct Try.underlying46 h
  rw [cells_liv] at hl
  have h0 := hf 0 _ rfl
  have h1 := hf 1 _ rfl
  rw [List.getElem?_eq_getElem (by rw [hlen]; decide)] at h0 h1
  obtain ⟨a, ea, ra⟩ := fld_int h0
  obtain ⟨b, eb, rb⟩ := fld_int h1
  have ea : (cs.drop 0).take (Try.prog.cellsOf 2) = [.int .i64 a] := ea
  have eb : (cs.drop 1).take (Try.prog.cellsOf 2) = [.int .i64 b] := eb
  rw [cells_i64] at ea eb
  have ea := one_at ea; have eb := one_at eb
  match cs, hl with
  | [c0, c1], _ =>
    simp at ea eb
    exact ⟨a, b, by rw [ea, eb], ra, rb⟩
theorem fld_seg {n : Nat} {cs : List Value} {y : DataW H × List MemPlace} (h : DataW.trod enc Try.prog w base spare held n 116 cs = some y) :
    ∃ x : Sg, cs = [.int .i64 x.k, .int .i64 x.l, .int .i64 x.r, .int .i64 x.a, .int .i64 x.b, .int .i64 x.c, .int .i64 x.d] ∧ x.In := by
  obtain ⟨xs, m, _, _, hl, hlen, hf⟩ := DataW.trod_struct Try.underlying116 h
  rw [cells_lseg] at hl
  have h0 := hf 0 _ rfl
  have h1 := hf 1 _ rfl
  have h2 := hf 2 _ rfl
  have h3 := hf 3 _ rfl
  have h4 := hf 4 _ rfl
  rw [List.getElem?_eq_getElem (by rw [hlen]; decide)] at h0 h1 h2 h3 h4
  obtain ⟨k, ek, rk⟩ := fld_int h0
  obtain ⟨l, el, rl⟩ := fld_int h1
  obtain ⟨r, er, rr⟩ := fld_int h2
  obtain ⟨a, b, eab, ra, rb⟩ := fld_iv h3
  obtain ⟨c, d, ecd, rc, rd⟩ := fld_iv h4
  have ek : (cs.drop 0).take (Try.prog.cellsOf 2) = [.int .i64 k] := ek
  have el : (cs.drop 1).take (Try.prog.cellsOf 2) = [.int .i64 l] := el
  have er : (cs.drop 2).take (Try.prog.cellsOf 2) = [.int .i64 r] := er
  have eab : (cs.drop 3).take (Try.prog.cellsOf 46) = [.int .i64 a, .int .i64 b] := eab
  have ecd : (cs.drop 5).take (Try.prog.cellsOf 46) = [.int .i64 c, .int .i64 d] := ecd
  rw [cells_i64] at ek el er
  rw [cells_liv] at eab ecd
  have ek := one_at ek; have el := one_at el; have er := one_at er
  obtain ⟨ea, eb⟩ := two_at eab
  obtain ⟨ec, ed⟩ := two_at ecd
  match cs, hl with
  | [c0, c1, c2, c3, c4, c5, c6], _ =>
    simp at ek el er ea eb ec ed
    refine ⟨⟨k, l, r, a, b, c, d⟩, by rw [ek, el, er, ea, eb, ec, ed], fun j => ?_⟩
    unfold Sg.at
    split <;> assumption
/-- a segment that came in -/
theorem open_segment {r : Reach} {b0 : Nat} {v : Value} {d : DataW H} {p : List MemPlace} (hv : Value.okWide Try.prog w r b0 116 v) (h : DataW.Trod enc Try.prog w base spare held 116 v d p) :
    ∃ x : Sg, v = .agg #[.int .i64 x.k, .int .i64 x.l, .int .i64 x.r, .int .i64 x.a, .int .i64 x.b, .int .i64 x.c, .int .i64 x.d] ∧ x.In := by
  obtain ⟨cs, rfl, hsz⟩ := okWide_struct Try.underlying116 hv
  obtain ⟨fuel, hf⟩ := h
  obtain ⟨x, e, hx⟩ := fld_seg hf
  refine ⟨x, ?_, hx⟩
  have e' : cs.toList = _ := e
  rw [← Array.toArray_toList (xs := cs), e']
/-- a slice of segments that came in -/
theorem fld_segs {fuel : Nat} {cs : List Value} {y : DataW H × List MemPlace} (hsp : ∀ b, spare b = true) (h : DataW.trod enc Try.prog w base spare held fuel 43 cs = some y) :
    ∃ (A : Option Addr) (len cap : Nat) (L : List Sg), cs = [.slice A len cap] ∧ len ≤ cap ∧ Sgs w A len L := by
  rcases open_slice Try.underlying43 h with ⟨e, _⟩ | ⟨a, len, cap, m, n, D, Pl, e, hb, hl, hm, hmm, _, hi⟩
  · exact ⟨none, 0, 0, [], e, Nat.le_refl _, Sgs.nil w none⟩
  · rw [hsp, if_pos rfl] at hmm
    have hlm : len ≤ m := by omega
    have key : ∀ i : Nat, ∃ x : Sg, i < len → (∀ j, j < 7 → w.cell? (a.add (i * 7 + j)) = some (.int .i64 (x.at j))) ∧ x.In := by
      intro i
      by_cases hlt : i < len
      · obtain ⟨cs', hc, ht⟩ := hi i (by omega)
        rw [cells_lseg] at hc
        obtain ⟨_, hcl, hat⟩ := World.cells?_some hc
        obtain ⟨x, ex, hx⟩ := fld_seg ht
        refine ⟨x, fun _ => ⟨fun j hj => ?_, hx⟩⟩
        have h1 := hat j hj
        rw [Go.Deep.add_add] at h1
        rw [h1, ex]
        have hj' : j = 0 ∨ j = 1 ∨ j = 2 ∨ j = 3 ∨ j = 4 ∨ j = 5 ∨ j = 6 := by omega
        rcases hj' with rfl | rfl | rfl | rfl | rfl | rfl | rfl <;> rfl
      · exact ⟨sg0, fun hh => absurd hh hlt⟩
    obtain ⟨f, hf⟩ := Classical.axiomOfChoice key
    refine ⟨some a, len, cap, (List.range len).map f, e, hl, by simp, by unfold maxLen at hm; omega, fun k hk => ?_, fun x hx => ?_⟩
    · have h0 := (hf 0 (by omega)).1 0 (by omega)
      obtain ⟨b, off, spot⟩ := a
      have hspot : spot = none := by simpa [Addr.add] using World.cell?_spot h0
      subst hspot
      refine ⟨b, off, rfl, fun j hj => ?_⟩
      have h1 := (hf k hk).1 j hj
      rw [Addr.add_lit] at h1
      rw [show off + k * 7 + j = off + (k * 7 + j) by omega, h1]
      simp [sx, hk]
    · obtain ⟨i, hi', rfl⟩ := List.mem_map.1 hx
      exact (hf i (List.mem_range.1 hi')).2
/-- a layout that came in -/
theorem open_layout {r : Reach} {b0 : Nat} {v : Value} {d : DataW H} {p : List MemPlace} (hsp : ∀ b, spare b = true) (hv : Value.okWide Try.prog w r b0 45 v) (h : DataW.Trod enc Try.prog w base spare held 45 v d p) :
    ∃ (A : Option Addr) (len cap : Nat) (L : List Sg), v = .agg #[.slice A len cap] ∧ len ≤ cap ∧ Sgs w A len L := by
  obtain ⟨cs, rfl, hsz⟩ := okWide_struct Try.underlying45 hv
  obtain ⟨fuel, hf⟩ := h
  obtain ⟨xs, m, _, _, hl, hlen, hff⟩ := DataW.trod_struct Try.underlying45 hf
  rw [show Try.prog.cellsOf 45 = 1 by kernel_rfl] at hsz
  have h0 := hff 0 _ rfl
  rw [List.getElem?_eq_getElem (by rw [hlen]; decide)] at h0
  obtain ⟨A, len, cap, L, e, hc, hs⟩ := fld_segs hsp h0
  refine ⟨A, len, cap, L, ?_, hc, hs⟩
  have e : (cs.toList.drop 0).take (Try.prog.cellsOf 43) = [.slice A len cap] := e
  rw [show Try.prog.cellsOf 43 = 1 by kernel_rfl] at e
  have e' := one_at e
  obtain ⟨l⟩ := cs
  match l, hsz with
  | [c0], _ =>
    simp at e'
    rw [e']
end
end Go.Proofs.Ytnmlkigpiaekjaa
namespace Go.Proofs.Ytnmlkigpiaekjaa
open Go.RowKit
set_option maxHeartbeats 2000000
set_option linter.unusedVariables false
set_option linter.unusedSimpArgs false
theorem s_In' (n a b : Int) (w : World) : Calls Try.prog 73 #[.int .i64 n, .int .i64 a, .int .i64 b] w fun e w' => e = .returned (.bool (decide (a ≤ n) && decide (n ≤ b))) ∧ w' = w := (s_In n a b w).mono fun _ _ ⟨h, k⟩ => ⟨h, k.symm⟩
def absI (n : Int) : Int := if n < 0 then -n else n
theorem s_Abs' (n : Int) (w : World) (h0 : -1000000000000 ≤ n) (h1 : n ≤ 1000000000000) : Calls Try.prog 94 #[.int .i64 n] w fun e w' => e = .returned (.int .i64 (absI n)) ∧ w' = w := by
  go_enter Try.func94, Try.ntmps94
  go_wp2
  all_goals
    go_ret
    exact ⟨ret_i64 (by unfold absI; omega), rfl⟩
theorem win_eq (n a b : Int) (h0 : 0 ≤ n) (h1 : n ≤ 20000) : (ivB a b && decide (n ≤ a) && decide (b ≤ 20000)) = rngB n a b := by
  rw [Bool.eq_iff_iff]
  unfold rngB
  simp [ivB_iff]
  omega
theorem s_Within (n a b : Int) (h0 : 0 ≤ n) (h1 : n ≤ 20000) (w : World) :
    Calls Try.prog 79 #[.agg #[.int .i64 a, .int .i64 b], .int .i64 n, .int .i64 20000] w fun e w' => e = .returned (.bool (rngB n a b)) ∧ Later w w' := by
  have E := Lib.hid (win_eq n a b h0 h1)
  clear h0 h1
  cases h : ivB a b
  all_goals
    go_enter Try.func79, Try.ntmps79
    go_wp2_with (go_at_call 100; refine (s_IsInterval _ _ _).mono ?_; rintro e w1 ⟨rfl, hb⟩; obtain ⟨H, hcc, hff, hzz⟩ := later_facts hb; clear hb; (try simp at hzz); (try simp only [World.heap_drewN, World.cell?_drewN, World.frozen?_drewN] at hcc hff); have hz0 : w.heap.size < w1.heap.size := (by omega))
    all_goals
      go_ret
      exact ⟨ret_b (by rw [← E.out, h]; first | (simp_all; done) | (simp_all; omega)), (by repeat (first | exact Later.refl _ | refine Later.alloc ?_ _ | refine Later.drewN ?_ _ | refine Later.drew ?_ | refine Later.trans ?_ (Hid.out (by assumption))))⟩
theorem s_IsSegment (x : Sg) (w : World) : Calls Try.prog 72 #[.agg #[.int .i64 x.k, .int .i64 x.l, .int .i64 x.r, .int .i64 x.a, .int .i64 x.b, .int .i64 x.c, .int .i64 x.d]] w fun e w' => e = .returned (.bool (sgB x)) ∧ Later w w' := by
  by_cases hk : 0 ≤ x.k ∧ x.k ≤ 4
  · by_cases hl : 1 ≤ x.l ∧ x.l ≤ 200000
    · by_cases hr : -100000 ≤ x.r ∧ x.r ≤ 100000
      · by_cases ha : absI x.r ≤ x.l
        · have ha0 : ¬ (absI x.r > x.l) := by omega
          have S0 : Hid (sgB x = (rngB 0 x.a x.b && frcB x.k x.c x.d)) := Lib.hid (by
            have q1 : kndB x.k = true := by unfold kndB; simp [hk]
            have q2 : lenB x.l = true := by unfold lenB; simp [hl]
            have q3 : slpB x.r x.l = true := by unfold absI at ha; unfold slpB; simp [hr]; split at ha <;> omega
            unfold sgB; rw [q1, q2, q3]; simp)
          obtain ⟨k1, k2⟩ := hk; obtain ⟨l1, l2⟩ := hl; obtain ⟨r1, r2⟩ := hr
          by_cases h0 : x.k = 0
          · have F : Hid (frcB x.k x.c x.d = (decide (x.c = 0) && decide (x.d = 0))) := Lib.hid (by unfold frcB; rw [if_pos h0])
            have e0 : (x.k == 0) = true := by simp [h0]
            cases h1 : rngB 0 x.a x.b
            all_goals
              go_enter Try.func72, Try.ntmps72
              go_wp2_with fail
              go_quiet ((first
      | (go_at_call 73; exact Calls.quiet_of_same (s_In' _ _ _ _))
      | (go_at_call 94; exact Calls.quiet_of_same (s_Abs' _ _ (by omega) (by omega)))))
              go_wp2_with (go_at_call 79; refine (s_Within _ _ _ (by omega) (by omega) _).mono ?_; rintro e w1 ⟨rfl, hb⟩; obtain ⟨H, hcc, hff, hzz⟩ := later_facts hb; clear hb; (try simp at hzz); (try simp only [World.heap_drewN, World.cell?_drewN, World.frozen?_drewN] at hcc hff); have hz0 : w.heap.size < w1.heap.size := (by omega))
              all_goals
                go_ret
                exact ⟨ret_b (by rw [S0.out, F.out, h1]; first | (simp_all; done) | (simp_all; omega)), (by repeat (first | exact Later.refl _ | refine Later.alloc ?_ _ | refine Later.drewN ?_ _ | refine Later.drew ?_ | refine Later.trans ?_ (Hid.out (by assumption))))⟩

          · have F : Hid (frcB x.k x.c x.d = rngB 1 x.c x.d) := Lib.hid (by unfold frcB; rw [if_neg h0])
            have e0 : (x.k == 0) = false := by simp [h0]
            cases h1 : rngB 0 x.a x.b
            all_goals
              go_enter Try.func72, Try.ntmps72
              go_wp2_with fail
              go_quiet ((first
      | (go_at_call 73; exact Calls.quiet_of_same (s_In' _ _ _ _))
      | (go_at_call 94; exact Calls.quiet_of_same (s_Abs' _ _ (by omega) (by omega)))))
              go_wp2_with (go_at_call 79; refine (s_Within _ _ _ (by omega) (by omega) _).mono ?_; rintro e w1 ⟨rfl, hb⟩; obtain ⟨H, hcc, hff, hzz⟩ := later_facts hb; clear hb; (try simp at hzz); (try simp only [World.heap_drewN, World.cell?_drewN, World.frozen?_drewN] at hcc hff); have hz0 : w.heap.size < w1.heap.size := (by omega))
              all_goals
                go_ret
                exact ⟨ret_b (by rw [S0.out, F.out, h1]; simp), (by repeat (first | exact Later.refl _ | refine Later.alloc ?_ _ | refine Later.drewN ?_ _ | refine Later.drew ?_ | refine Later.trans ?_ (Hid.out (by assumption))))⟩

        · have S0 : Hid (sgB x = false) := Lib.hid (by
            have q3 : slpB x.r x.l = false := by unfold absI at ha; unfold slpB; simp [hr]; intros; split at ha <;> omega
            unfold sgB; rw [q3]; simp)
          have ha0 : absI x.r > x.l := by omega
          obtain ⟨k1, k2⟩ := hk; obtain ⟨l1, l2⟩ := hl; obtain ⟨r1, r2⟩ := hr
          go_enter Try.func72, Try.ntmps72
          go_wp2_with fail
          go_quiet ((first
      | (go_at_call 73; exact Calls.quiet_of_same (s_In' _ _ _ _))
      | (go_at_call 94; exact Calls.quiet_of_same (s_Abs' _ _ (by omega) (by omega)))))
          go_wp2_with (go_at_call 79; refine (s_Within _ _ _ (by omega) (by omega) _).mono ?_; rintro e w1 ⟨rfl, hb⟩; obtain ⟨H, hcc, hff, hzz⟩ := later_facts hb; clear hb; (try simp at hzz); (try simp only [World.heap_drewN, World.cell?_drewN, World.frozen?_drewN] at hcc hff); have hz0 : w.heap.size < w1.heap.size := (by omega))
          all_goals
            go_ret
            exact ⟨ret_b (by rw [S0.out]), (by repeat (first | exact Later.refl _ | refine Later.alloc ?_ _ | refine Later.drewN ?_ _ | refine Later.drew ?_ | refine Later.trans ?_ (Hid.out (by assumption))))⟩

      · have S0 : Hid (sgB x = false) := Lib.hid (by rw [sgB_no]; omega)
        have c3 : (decide (-100000 ≤ x.r) && decide (x.r ≤ 100000)) = false := by simpa using hr
        obtain ⟨k1, k2⟩ := hk; obtain ⟨l1, l2⟩ := hl
        go_enter Try.func72, Try.ntmps72
        go_wp2_with fail
        go_quiet ((first
      | (go_at_call 73; exact Calls.quiet_of_same (s_In' _ _ _ _))
      | (go_at_call 94; exact Calls.quiet_of_same (s_Abs' _ _ (by omega) (by omega)))))
        go_wp2_with (go_at_call 79; refine (s_Within _ _ _ (by omega) (by omega) _).mono ?_; rintro e w1 ⟨rfl, hb⟩; obtain ⟨H, hcc, hff, hzz⟩ := later_facts hb; clear hb; (try simp at hzz); (try simp only [World.heap_drewN, World.cell?_drewN, World.frozen?_drewN] at hcc hff); have hz0 : w.heap.size < w1.heap.size := (by omega))
        all_goals
          go_ret
          exact ⟨ret_b (by rw [S0.out]), (by repeat (first | exact Later.refl _ | refine Later.alloc ?_ _ | refine Later.drewN ?_ _ | refine Later.drew ?_ | refine Later.trans ?_ (Hid.out (by assumption))))⟩

    · have S0 : Hid (sgB x = false) := Lib.hid (by rw [sgB_no]; omega)
      have c2 : (decide (1 ≤ x.l) && decide (x.l ≤ 200000)) = false := by simpa using hl
      obtain ⟨k1, k2⟩ := hk
      go_enter Try.func72, Try.ntmps72
      go_wp2_with fail
      go_quiet ((first
      | (go_at_call 73; exact Calls.quiet_of_same (s_In' _ _ _ _))
      | (go_at_call 94; exact Calls.quiet_of_same (s_Abs' _ _ (by omega) (by omega)))))
      go_wp2_with (go_at_call 79; refine (s_Within _ _ _ (by omega) (by omega) _).mono ?_; rintro e w1 ⟨rfl, hb⟩; obtain ⟨H, hcc, hff, hzz⟩ := later_facts hb; clear hb; (try simp at hzz); (try simp only [World.heap_drewN, World.cell?_drewN, World.frozen?_drewN] at hcc hff); have hz0 : w.heap.size < w1.heap.size := (by omega))
      all_goals
        go_ret
        exact ⟨ret_b (by rw [S0.out]), (by repeat (first | exact Later.refl _ | refine Later.alloc ?_ _ | refine Later.drewN ?_ _ | refine Later.drew ?_ | refine Later.trans ?_ (Hid.out (by assumption))))⟩

  · have S0 : Hid (sgB x = false) := Lib.hid (by rw [sgB_no]; omega)
    have c1 : (decide (0 ≤ x.k) && decide (x.k ≤ 4)) = false := by simpa using hk
    go_enter Try.func72, Try.ntmps72
    go_wp2_with fail
    go_quiet ((first
      | (go_at_call 73; exact Calls.quiet_of_same (s_In' _ _ _ _))
      | (go_at_call 94; exact Calls.quiet_of_same (s_Abs' _ _ (by omega) (by omega)))))
    go_wp2_with (go_at_call 79; refine (s_Within _ _ _ (by omega) (by omega) _).mono ?_; rintro e w1 ⟨rfl, hb⟩; obtain ⟨H, hcc, hff, hzz⟩ := later_facts hb; clear hb; (try simp at hzz); (try simp only [World.heap_drewN, World.cell?_drewN, World.frozen?_drewN] at hcc hff); have hz0 : w.heap.size < w1.heap.size := (by omega))
    all_goals
      go_ret
      exact ⟨ret_b (by rw [S0.out]), (by repeat (first | exact Later.refl _ | refine Later.alloc ?_ _ | refine Later.drewN ?_ _ | refine Later.drew ?_ | refine Later.trans ?_ (Hid.out (by assumption))))⟩

end Go.Proofs.Ytnmlkigpiaekjaa
namespace Go.Proofs.Ytnmlkigpiaekjaa
open Go.RowKit
set_option maxHeartbeats 2000000
set_option linter.unusedVariables false
set_option linter.unusedSimpArgs false
theorem s_l03Holds (x : Sg) (w : World) : Calls Try.prog 116 #[.agg #[.int .i64 x.k, .int .i64 x.l, .int .i64 x.r, .int .i64 x.a, .int .i64 x.b, .int .i64 x.c, .int .i64 x.d]] w fun e w' => e = .returned (.bool (decide (x.k = 1) || decide (x.k = 3) || decide (x.k = 4))) ∧ Later w w' := by
  have key : ∀ p q r : Bool, decide (x.k = 1) = p → decide (x.k = 3) = q → decide (x.k = 4) = r → Hid ((decide (x.k = 1) || decide (x.k = 3) || decide (x.k = 4)) = (p || q || r)) := by
    rintro p q r rfl rfl rfl; exact Lib.hid rfl
  cases h1 : decide (x.k = 1) <;> cases h3 : decide (x.k = 3) <;> cases h4 : decide (x.k = 4)
  all_goals
    have K := key _ _ _ h1 h3 h4
    clear key
    have e1 := (show (x.k == 1) = decide (x.k = 1) from rfl).trans h1
    have e3 := (show (x.k == 3) = decide (x.k = 3) from rfl).trans h3
    have e4 := (show (x.k == 4) = decide (x.k = 4) from rfl).trans h4
    clear h1 h3 h4
    go_enter Try.func116, Try.ntmps116
    go_wp2
    go_ret
    exact ⟨ret_b (by first | rfl | (rw [K.out]; rfl)), (by repeat (first | exact Later.refl _ | refine Later.alloc ?_ _ | refine Later.drewN ?_ _ | refine Later.drew ?_ | refine Later.trans ?_ (Hid.out (by assumption))))⟩
end Go.Proofs.Ytnmlkigpiaekjaa
namespace Go.Proofs.Ytnmlkigpiaekjaa
open Go.RowKit
set_option maxHeartbeats 2000000
set_option linter.unusedVariables false
set_option linter.unusedSimpArgs false
set_option maxRecDepth 100000 in
theorem s_IsLayout (a : Option Addr) (n cap : Nat) (L : List Sg) (w : World) (hs : Sgs w a n L) :
    Calls Try.prog 38 #[.agg #[.slice a n cap]] w fun e w' => e = .returned (.bool (layB L)) ∧ Later w w' := by
  have HS := Lib.hid hs
  have HL := Lib.hid hs.1
  have hn := hs.2.1
  clear hs
  by_cases h : 3 ≤ n ∧ n ≤ 24
  · obtain ⟨h1, h2⟩ := h
    go_enter Try.func38, Try.ntmps38
    go_wp2_with fail
    go_loopw [4, 5] (fun hh i wr => ∃ k : Nat, k ≤ n ∧ i = .int .i64 k ∧ hh = .int .i64 (upR L k) ∧ okB L k = true ∧ wr.cell? ⟨w.heap.size, 0, none⟩ = some (.slice a n cap) ∧ w.heap.size < wr.heap.size ∧ Later w wr) (fun _ i _ => n - (intOf i).toNat)
    case atStart => exact ⟨0, by omega, rfl, by rw [upR_0], okB_0 L, by simp, by simp, (Later.refl _).alloc _⟩
    case round =>
      obtain ⟨k, hk, rfl, rfl, hok, cb, hsz, hlw⟩ := hrel
      have HO := Lib.hid hok; have HW := Lib.hid hlw
      clear hok hlw
      obtain ⟨bd1, bd2, _, _⟩ := up_bd L k (by rw [HL.out]; exact hk) HO.out
      by_cases hlt : k < n
      · obtain ⟨b', off', rfl, hb', hc⟩ := (HS.out.later HW.out).at k hlt
        obtain ⟨c0, c1, c2, c3, c4, c5, c6⟩ := hc
        cases hv : sgB (sx L k)
        · have HV := Lib.hid (layB_bad HL.out hlt hv)
          go_wp2_with (go_at_call 72; refine (s_IsSegment (sx L k) _).mono ?_; rintro e w1 ⟨rfl, hb⟩; obtain ⟨H, hcc, hff, hzz⟩ := later_facts hb; clear hb; (try simp at hzz); (try simp only [World.heap_drewN, World.cell?_drewN, World.frozen?_drewN] at hcc hff))
          go_ret
          exact ⟨ret_b (by rw [HV.out]), (by repeat (first | exact Later.refl _ | exact Hid.out (by assumption) | refine Later.set_at ?_ ?_ _ _ | refine Later.alloc ?_ _ | refine Later.drewN ?_ _ | refine Later.drew ?_ | refine Later.trans ?_ (Hid.out (by assumption))))⟩
        · have HV := Lib.hid hv
          have hr := (sgB_iff _).1 hv
          have r1 := hr.2.2.1.1; have r2 := hr.2.2.1.2.1
          clear hr
          go_wp2_with (go_at_call 72; refine (s_IsSegment (sx L k) _).mono ?_; rintro e w1 ⟨rfl, hb⟩; obtain ⟨H, hcc, hff, hzz⟩ := later_facts hb; clear hb; (try simp at hzz); (try simp only [World.heap_drewN, World.cell?_drewN, World.frozen?_drewN] at hcc hff))
          go_roundw
          case rel => exact ⟨k + 1, by omega, by go_num, by rw [upR_succ L k (by rw [HL.out]; exact hlt)], by rw [okB_succ L k (by rw [HL.out]; exact hlt), HO.out, HV.out]; rfl, by rw [hcc _ _ hsz]; exact cb, by omega, (by repeat (first | exact Later.refl _ | exact Hid.out (by assumption) | refine Later.set_at ?_ ?_ _ _ | refine Later.alloc ?_ _ | refine Later.drewN ?_ _ | refine Later.drew ?_ | refine Later.trans ?_ (Hid.out (by assumption))))⟩
          case measure => simp [intOf]; omega
      · obtain rfl : k = n := by omega
        obtain ⟨b', off', rfl, hb', hc⟩ := (HS.out.later HW.out).at (k - 1) (by omega)
        obtain ⟨c0, c1, c2, c3, c4, c5, c6⟩ := hc
        clear bd1 bd2
        by_cases hr0 : upR L k = 0
        · have er : (upR L k == 0) = true := by simpa using hr0
          by_cases h4 : (sx L (k - 1)).k = 4
          · have e4 : ((sx L (k - 1)).k == 4) = true := by simpa using h4
            have HF : Hid (layB L = true) := Lib.hid (by rw [layB_fin HL.out h1 h2 h4 HO.out, hr0]; simp)
            clear hr0 h4
            go_wp2
            go_ret
            exact ⟨ret_b (by rw [HF.out]), (by repeat (first | exact Later.refl _ | exact Hid.out (by assumption) | refine Later.set_at ?_ ?_ _ _ | refine Later.alloc ?_ _ | refine Later.drewN ?_ _ | refine Later.drew ?_ | refine Later.trans ?_ (Hid.out (by assumption))))⟩
          · have e4 : ((sx L (k - 1)).k == 4) = false := by simpa using h4
            have HF : Hid (layB L = false) := Lib.hid (layB_last HL.out h4)
            clear hr0 h4
            go_wp2
            go_ret
            exact ⟨ret_b (by rw [HF.out]), (by repeat (first | exact Later.refl _ | exact Hid.out (by assumption) | refine Later.set_at ?_ ?_ _ _ | refine Later.alloc ?_ _ | refine Later.drewN ?_ _ | refine Later.drew ?_ | refine Later.trans ?_ (Hid.out (by assumption))))⟩
        · have er : (upR L k == 0) = false := by simpa using hr0
          have HF : Hid (layB L = false) := Lib.hid (by rw [layB_no]; rintro ⟨_, _, _, e, _⟩; rw [HL.out] at e; exact hr0 e)
          clear hr0
          go_wp2
          go_ret
          exact ⟨ret_b (by rw [HF.out]), (by repeat (first | exact Later.refl _ | exact Hid.out (by assumption) | refine Later.set_at ?_ ?_ _ _ | refine Later.alloc ?_ _ | refine Later.drewN ?_ _ | refine Later.drew ?_ | refine Later.trans ?_ (Hid.out (by assumption))))⟩
  · have HF := Lib.hid (layB_len HL.out h)
    have hn : n < 3 ∨ 24 < n := by omega
    clear h
    rcases hn with hn | hn
    all_goals
      go_enter Try.func38, Try.ntmps38
      go_wp2_with fail
      go_ret
      exact ⟨ret_b (by rw [HF.out]), (by repeat (first | exact Later.refl _ | exact Hid.out (by assumption) | refine Later.set_at ?_ ?_ _ _ | refine Later.alloc ?_ _ | refine Later.drewN ?_ _ | refine Later.drew ?_ | refine Later.trans ?_ (Hid.out (by assumption))))⟩
end Go.Proofs.Ytnmlkigpiaekjaa
namespace Go.Proofs.Ytnmlkigpiaekjaa
open Go.RowKit
set_option maxHeartbeats 2000000
set_option linter.unusedVariables false
set_option linter.unusedSimpArgs false
end Go.Proofs.Ytnmlkigpiaekjaa
namespace Go.Proofs.Ytnmlkigpiaekjaa
open Go.RowKit
set_option maxHeartbeats 2000000
set_option linter.unusedVariables false
set_option linter.unusedSimpArgs false
theorem s_Floor (a b : Int) (w : World) (h1 : -1000000000000 ≤ a) (h2 : a ≤ 1000000000000) (h3 : -1000000000000 ≤ b) (h4 : b ≤ 1000000000000) (h0 : b ≠ 0) :
    Calls Try.prog 86 #[.int .i64 a, .int .i64 b] w fun e w' => e = .returned (.int .i64 (flo a b)) ∧ w = w' := by
  have hb := tdiv_bd a b _ h1 h2
  go_enter Try.func86, Try.ntmps86
  go_wp2
  all_goals
    go_ret
    exact ⟨ret_i64 (by unfold flo; simp_all), rfl⟩
theorem divErr_0 (a b : Int) (h : divErr a b = 0) : -1000000000000 ≤ a ∧ a ≤ 1000000000000 ∧ -1000000000000 ≤ b ∧ b ≤ 1000000000000 ∧ b ≠ 0 := by
  unfold divErr at h
  split at h
  · omega
  · rename_i h1
    have h2 : isVB a = true ∧ isVB b = true := by simpa using h1
    rw [isVB_iff, isVB_iff] at h2
    split at h <;> omega
end Go.Proofs.Ytnmlkigpiaekjaa
namespace Go.Proofs.Ytnmlkigpiaekjaa
open Go.RowKit
set_option maxHeartbeats 2000000
set_option linter.unusedVariables false
set_option linter.unusedSimpArgs false
theorem ret_3i' {a b c d e f : Int} (h : a = d) (k : b = e) (l : c = f) : Ending.returned (.tuple #[.int .i64 a, .int .i64 b, .int .i64 c]) = .returned (.tuple #[.int .i64 d, .int .i64 e, .int .i64 f]) := by rw [h, k, l]
theorem mul_rise' (x y : Int) (h1 : -100000 ≤ x) (h2 : x ≤ 100000) (h3 : 0 ≤ y) (h4 : y ≤ 200000) : -20000000000 ≤ x * y ∧ x * y ≤ 20000000000 := by
  have a : x * y ≤ 100000 * y := Int.mul_le_mul_of_nonneg_right h2 h3
  have b : -100000 * y ≤ x * y := Int.mul_le_mul_of_nonneg_right h1 h3
  omega
theorem s_Floor' (a b : Int) (w : World) (h1 : -1000000000000 ≤ a) (h2 : a ≤ 1000000000000) (h3 : 1 ≤ b) (h4 : b ≤ 1000000000000) :
    Calls Try.prog 86 #[.int .i64 a, .int .i64 b] w fun e w' => e = .returned (.int .i64 (flo a b)) ∧ w' = w := (s_Floor a b w h1 h2 (by omega) h4 (by omega)).mono fun _ _ ⟨h, k⟩ => ⟨h, k.symm⟩
end Go.Proofs.Ytnmlkigpiaekjaa
namespace Go.Proofs.Ytnmlkigpiaekjaa
open Go.RowKit
set_option linter.unusedVariables false
set_option linter.unusedSimpArgs false
/-- what hands back the beginnings leaves: a list of its own, and a code -/
def Started (w : World) (L : List Sg) (e : Ending) (w' : World) : Prop :=
  ∃ v, e = .returned (.tuple #[v, .int .i64 (tlE L)]) ∧ Own w' w.heap.size v (strs L) ∧ Later w w'
theorem own_none (w : World) (base : Nat) : Own w base (.slice none 0 0) [] := ⟨⟨rfl, .inl ⟨rfl, rfl⟩⟩, fun x hx => by simp at hx⟩
theorem strs_in {L : List Sg} (hv : layB L = true) : ∀ x ∈ strs L, InR x := by
  intro x hx
  obtain ⟨_, h2, h3, _⟩ := (layB_iff L).1 hv
  unfold strs at hx
  rw [if_pos hv] at hx
  obtain ⟨j, hj, rfl⟩ := List.mem_map.1 hx
  rw [List.mem_range] at hj
  obtain ⟨_, _, b1, b2⟩ := up_bd L j (by omega) (okB_le L L.length j (by omega) h3)
  exact ⟨by omega, by omega⟩
theorem Own.mono {w : World} {base base' : Nat} {v : Value} {l : List Int} (h : Own w base v l) (hb : base' ≤ base) : Own w base' v l := by
  refine ⟨⟨h.1.1, ?_⟩, h.2⟩
  rcases h.1.2 with h0 | ⟨g, cap, cur, e, hg, r⟩
  · exact .inl h0
  · exact .inr ⟨g, cap, cur, e, by omega, r⟩
/-- behind an append to a list of the call's own, made in blocks above the first -/
theorem later_grown {w wr w5 : World} {v : Value} {l : List Int} (W : Later w wr) (O : Own wr (w.heap.size + 1) v l) (hg : wr.grownBy w5 v.ownBlock) :
    Hid (Later w w5) ∧ (∀ (o : Nat) (u : Value), wr.cell? ⟨w.heap.size, o, none⟩ = some u → w5.cell? ⟨w.heap.size, o, none⟩ = some u) ∧ wr.heap.size ≤ w5.heap.size := by
  refine ⟨Lib.hid (Below.grown W hg W.size (fun j hj => by have := (O.lt j hj).1; omega)), fun o u hc => hg.cell hc (fun e => by have := (O.lt _ e.symm).1; simp at this; omega), hg.size⟩
end Go.Proofs.Ytnmlkigpiaekjaa
namespace Go.Proofs.Ytnmlkigpiaekjaa
open Go.RowKit
set_option maxHeartbeats 2000000
set_option linter.unusedVariables false
set_option linter.unusedSimpArgs false
def ListIs (w : World) (l : List Int) (e : Ending) (w' : World) : Prop := ∃ v, e = .returned v ∧ Own w' w.heap.size v l ∧ Later w w'
end Go.Proofs.Ytnmlkigpiaekjaa
namespace Go.Proofs.Ytnmlkigpiaekjaa
open Go.RowKit
set_option maxHeartbeats 4000000
set_option linter.unusedVariables false
set_option linter.unusedSimpArgs false
/-- a segment of a valid layout holds by its kind -/
theorem hld_kind {L : List Sg} (hv : layB L = true) (q : Nat) (hq : q < L.length) : (decide ((sx L q).k = 1) || decide ((sx L q).k = 3) || decide ((sx L q).k = 4)) = hldB (sx L q) := by
  unfold hldB
  rw [okB_at L L.length q (Nat.le_refl _) hq ((layB_iff L).1 hv).2.2.1]
  simp
theorem s_holds_at {L : List Sg} (hv : layB L = true) (q : Nat) (hq : q < L.length) (w : World) : Calls Try.prog 116 #[.agg #[.int .i64 (sx L q).k, .int .i64 (sx L q).l, .int .i64 (sx L q).r, .int .i64 (sx L q).a, .int .i64 (sx L q).b, .int .i64 (sx L q).c, .int .i64 (sx L q).d]] w fun e w' => e = .returned (.bool (hldB (sx L q))) ∧ Later w w' := by
  have := s_l03Holds (sx L q) w
  rwa [hld_kind hv q hq] at this
theorem s_RisesL (a : Option Addr) (n cap : Nat) (l : List Int) (m : Int) (w : World) (hs : Sl w a n l) :
    Calls Try.prog 115 #[.slice a n cap, .int .i64 m] w fun e w' => e = .returned (.bool (risB l m)) ∧ Later w w' :=
  (s_Rises a n cap l m w hs).mono fun e w' ⟨he, q, hq⟩ => ⟨he, by rw [hq]; exact (Later.refl _).drewN q⟩
theorem SgAt.later0 {w w' : World} {b o : Nat} {x : Sg} (h : SgAt w b o x) (k : Later w w') : SgAt w' b o x := by
  obtain ⟨h0, h1, h2, h3, h4, h5, h6⟩ := h
  have hb := sg_cell_lt h0
  refine ⟨?_, ?_, ?_, ?_, ?_, ?_, ?_⟩
  · rw [k.cell (p := ⟨b, o, none⟩) hb]; exact h0
  · rw [k.cell (p := ⟨b, o + 1, none⟩) hb]; exact h1
  · rw [k.cell (p := ⟨b, o + 2, none⟩) hb]; exact h2
  · rw [k.cell (p := ⟨b, o + 3, none⟩) hb]; exact h3
  · rw [k.cell (p := ⟨b, o + 4, none⟩) hb]; exact h4
  · rw [k.cell (p := ⟨b, o + 5, none⟩) hb]; exact h5
  · rw [k.cell (p := ⟨b, o + 6, none⟩) hb]; exact h6
/-- a box, an element of a list, a segment: what one round reads -/
def Nine (w : World) (B : Nat) (a : Option Addr) (n cap : Nat) (bF oF : Nat) (v : Int) (b o : Nat) (x : Sg) : Prop :=
  w.cell? ⟨B, 0, none⟩ = some (.slice a n cap) ∧ w.cell? ⟨bF, oF, none⟩ = some (.int .i64 v) ∧ w.cell? ⟨b, o, none⟩ = some (.int .i64 x.k) ∧ w.cell? ⟨b, o + 1, none⟩ = some (.int .i64 x.l) ∧ w.cell? ⟨b, o + 2, none⟩ = some (.int .i64 x.r) ∧ w.cell? ⟨b, o + 3, none⟩ = some (.int .i64 x.a) ∧ w.cell? ⟨b, o + 4, none⟩ = some (.int .i64 x.b) ∧ w.cell? ⟨b, o + 5, none⟩ = some (.int .i64 x.c) ∧ w.cell? ⟨b, o + 6, none⟩ = some (.int .i64 x.d)
theorem Nine.later {w w' : World} {B : Nat} {a : Option Addr} {n cap : Nat} {bF oF : Nat} {v : Int} {b o : Nat} {x : Sg} (h : Nine w B a n cap bF oF v b o x) (k : Later w w') : Nine w' B a n cap bF oF v b o x := by
  obtain ⟨h0, h1, h2⟩ := h
  refine ⟨by rw [k.cell (p := ⟨B, 0, none⟩) (cell_lt h0)]; exact h0, by rw [k.cell (p := ⟨bF, oF, none⟩) (cell_lt h1)]; exact h1, ?_⟩
  exact SgAt.later0 h2 k
set_option maxRecDepth 100000 in
theorem s_l04Blocks (a : Option Addr) (n cap : Nat) (L : List Sg) (A : Option Addr) (m capF : Nat) (F : List Int) (w : World) (hs : Sgs w a n L) (hf : Sl w A m F) (hv : layB L = true) :
    Calls Try.prog 101 #[.agg #[.slice a n cap], .slice A m capF] w fun e w' => e = .returned (.bool (bkC L F)) ∧ Later w w' := by
  have HS := Lib.hid hs; have HL := Lib.hid hs.1
  have HF := Lib.hid hf; have HM := Lib.hid hf.1
  have hn := hs.2.1; have hm := hf.2.1
  have HV := Lib.hid hv
  have h24 := ((layB_iff L).1 hv).2.1
  rw [HL.out] at h24
  clear hs hf hv
  by_cases h28 : 2 ≤ m ∧ m ≤ 8
  · obtain ⟨h2, h8⟩ := h28
    obtain ⟨bF, oF, rfl, hc0⟩ := HF.out.at 0 (by omega)
    have hbF := cell_lt hc0
    rw [Nat.add_zero] at hc0
    cases hr : risB F (n : Int)
    · have HT : Hid (bkC L F = false) := Lib.hid (by rw [bkC_no]; rintro ⟨_, _, e, _⟩; rw [HL.out, hr] at e; cases e)
      go_enter Try.func101, Try.ntmps101
      go_wp2_with (first
        | (go_at_call 73; refine (s_In _ _ _ _).mono ?_; rintro e w' ⟨rfl, rfl⟩)
        | (go_at_call 115; refine (s_RisesL _ m capF F n _ (HF.out.later (by repeat (first | (with_reducible exact Later.refl _) | (with_reducible exact Hid.out (by assumption)) | (with_reducible refine Later.alloc ?_ _) | (with_reducible refine Later.setCell ?_ (by simp; omega) _) | (with_reducible refine Later.setCell ?_ (by simp) _) | (with_reducible refine Later.drewN ?_ _) | (with_reducible refine Later.drew ?_) | (with_reducible refine Later.trans ?_ (Hid.out (by assumption))))))).mono ?_; rw [hr]; rintro e w1 ⟨rfl, hb⟩; have H := Lib.hid hb; clear hb))
      go_ret
      exact ⟨ret_b (by rw [HT.out]), (by repeat (first | (with_reducible exact Later.refl _) | (with_reducible exact Hid.out (by assumption)) | (with_reducible refine Later.alloc ?_ _) | (with_reducible refine Later.setCell ?_ (by simp; omega) _) | (with_reducible refine Later.setCell ?_ (by simp) _) | (with_reducible refine Later.drewN ?_ _) | (with_reducible refine Later.drew ?_) | (with_reducible refine Later.trans ?_ (Hid.out (by assumption)))))⟩
    · have HR := Lib.hid hr
      by_cases h0 : gx F 0 = 0
      · have e0 : (gx F 0 != 0) = false := by simp [h0]
        have HG0 := Lib.hid h0
        clear h0
        go_enter Try.func101, Try.ntmps101
        go_wp2_with (first
          | (go_at_call 73; refine (s_In _ _ _ _).mono ?_; rintro e w' ⟨rfl, rfl⟩)
          | (go_at_call 115; refine (s_RisesL _ m capF F n _ (HF.out.later (by repeat (first | (with_reducible exact Later.refl _) | (with_reducible exact Hid.out (by assumption)) | (with_reducible refine Later.alloc ?_ _) | (with_reducible refine Later.setCell ?_ (by simp; omega) _) | (with_reducible refine Later.setCell ?_ (by simp) _) | (with_reducible refine Later.drewN ?_ _) | (with_reducible refine Later.drew ?_) | (with_reducible refine Later.trans ?_ (Hid.out (by assumption))))))).mono ?_; rintro e w1 ⟨rfl, hb⟩; obtain ⟨H, hcc, hff, hzz⟩ := later_facts hb; clear hb; (try simp at hzz); (try simp only [World.heap_drewN, World.cell?_drewN, World.frozen?_drewN] at hcc hff)))
        have HW1 : Hid (Later w w1) := Lib.hid (Later.trans (by repeat (first | (with_reducible exact Later.refl _) | (with_reducible exact Hid.out (by assumption)) | (with_reducible refine Later.alloc ?_ _) | (with_reducible refine Later.setCell ?_ (by simp; omega) _) | (with_reducible refine Later.setCell ?_ (by simp) _) | (with_reducible refine Later.drewN ?_ _) | (with_reducible refine Later.drew ?_) | (with_reducible refine Later.trans ?_ (Hid.out (by assumption))))) H.out)
        have cb1 : w1.cell? ⟨w.heap.size, 0, none⟩ = some (.slice a n cap) := by rw [hcc _ _ (by simp)]; simp
        have hz1 : w.heap.size < w1.heap.size := by omega
        clear hcc hff hr e0 hc0 H
        go_loopw [5] (fun i wr => ∃ k : Nat, 1 ≤ k ∧ k ≤ m ∧ i = .int .i64 k ∧ okH L F k = true ∧ Later w1 wr) (fun i _ => m - (intOf i).toNat)
        case atStart => exact ⟨1, by omega, by omega, rfl, okH_1 L F, Later.refl _⟩
        case round =>
          obtain ⟨k, hk1, hk, rfl, hok, hlw⟩ := hrel
          have HO := Lib.hid hok; have HLW := Lib.hid hlw
          have HW : Hid (Later w wr) := Lib.hid (HW1.out.trans hlw)
          have cb : wr.cell? ⟨w.heap.size, 0, none⟩ = some (.slice a n cap) := by rw [hlw.cell (p := ⟨w.heap.size, 0, none⟩) hz1]; exact cb1
          clear hok hlw
          by_cases hlt : k < m
          · obtain ⟨q, hq, hqn, hqf⟩ := fst_pred (L := L) HR.out (k := k - 1) (by rw [HM.out]; omega)
            rw [show k - 1 + 1 = k by omega] at hq hqf
            obtain ⟨b', o', hbb, hcF'⟩ := (HF.out.later HW.out).at k hlt
            simp only [Option.some.injEq, Addr.mk.injEq, and_true] at hbb
            obtain ⟨rfl, rfl⟩ := hbb
            rw [hq] at hcF'
            obtain ⟨v, hvq⟩ : ∃ v, v = ((q + 1 : Nat) : Int) := ⟨_, rfl⟩
            rw [← hvq] at hcF'
            obtain ⟨b2, o2, rfl, hb2, hc⟩ := (HS.out.later HW.out).at q (by omega)
            have N9 : Hid (Nine wr w.heap.size (some ⟨b2, o2, none⟩) n cap bF (oF + k) v b2 (o2 + q * 7) (sx L q)) := Lib.hid ⟨cb, hcF', hc⟩
            obtain ⟨c0, c1, c2, c3, c4, c5, c6⟩ := hc
            have HOK : Hid (okH L F (k + 1) = hldB (sx L q)) := Lib.hid (by rw [okH_succ, HO.out, hqf]; simp; intro h; omega)
            have hq1 : IntKind.i64.wrap (v - 1) = (q : Int) := (IntWalk.i64_in _ (by omega)).trans (by omega)
            have hq2 : wrap64 (v - 1) = (q : Int) := (IntWalk.wrap64_in _ (by omega)).trans (by omega)
            have hq3 : (0 : Int) ≤ (q : Int) := by omega
            have hq4 : (q : Int) < (n : Int) := by omega
            have hk3 : (0 : Int) ≤ (k : Int) := by omega
            have hk4 : (k : Int) < (m : Int) := by omega
            have hq5 : q < n := by omega
            clear hq hqf hvq
            cases hh : hldB (sx L q)
            · have HN : Hid (bkC L F = false) := Lib.hid (by
                rw [bkC_no]; rintro ⟨_, _, _, _, e⟩
                have := okH_at L F F.length k e (by rw [HM.out]; omega) (by omega)
                have h2 := HOK.out
                rw [okH_succ, HO.out, this] at h2
                rw [hh] at h2; simp at h2)
              go_wp2_with fail
              go_region_held3 (fun w' => w'.cell? ⟨w.heap.size, 0, none⟩ = some (.slice (some ⟨b2, o2, none⟩) n cap) ∧ w'.cell? ⟨bF, oF + k, none⟩ = some (.int .i64 v) ∧ w'.cell? ⟨b2, o2 + q * 7, none⟩ = some (.int .i64 (sx L q).k) ∧ w'.cell? ⟨b2, o2 + q * 7 + 1, none⟩ = some (.int .i64 (sx L q).l) ∧ w'.cell? ⟨b2, o2 + q * 7 + 2, none⟩ = some (.int .i64 (sx L q).r) ∧ w'.cell? ⟨b2, o2 + q * 7 + 3, none⟩ = some (.int .i64 (sx L q).a) ∧ w'.cell? ⟨b2, o2 + q * 7 + 4, none⟩ = some (.int .i64 (sx L q).b) ∧ w'.cell? ⟨b2, o2 + q * 7 + 5, none⟩ = some (.int .i64 (sx L q).c) ∧ w'.cell? ⟨b2, o2 + q * 7 + 6, none⟩ = some (.int .i64 (sx L q).d)) (exact N9.out.later (by repeat (first | (with_reducible exact Later.refl _) | (with_reducible exact Hid.out (by assumption)) | (with_reducible refine Later.alloc ?_ _) | (with_reducible refine Later.setCell ?_ (by simp; omega) _) | (with_reducible refine Later.setCell ?_ (by simp) _) | (with_reducible refine Later.drewN ?_ _) | (with_reducible refine Later.drew ?_) | (with_reducible refine Later.trans ?_ (Hid.out (by assumption))))))
                (first | (go_at_call 116; refine (s_holds_at HV.out q (by rw [HL.out]; omega) _).mono ?_; rw [hh]; rintro e w1 ⟨rfl, hb1⟩; have H1 := Lib.hid hb1; clear hb1))
              all_goals
                go_wp2
                go_ret
                exact ⟨ret_b (by rw [HN.out]), (by repeat (first | (with_reducible exact Later.refl _) | (with_reducible exact Hid.out (by assumption)) | (with_reducible refine Later.alloc ?_ _) | (with_reducible refine Later.setCell ?_ (by simp; omega) _) | (with_reducible refine Later.setCell ?_ (by simp) _) | (with_reducible refine Later.drewN ?_ _) | (with_reducible refine Later.drew ?_) | (with_reducible refine Later.trans ?_ (Hid.out (by assumption)))))⟩
            · have HN : Hid (okH L F (k + 1) = true) := Lib.hid (by rw [HOK.out, hh])
              go_wp2_with fail
              go_region_held3 (fun w' => w'.cell? ⟨w.heap.size, 0, none⟩ = some (.slice (some ⟨b2, o2, none⟩) n cap) ∧ w'.cell? ⟨bF, oF + k, none⟩ = some (.int .i64 v) ∧ w'.cell? ⟨b2, o2 + q * 7, none⟩ = some (.int .i64 (sx L q).k) ∧ w'.cell? ⟨b2, o2 + q * 7 + 1, none⟩ = some (.int .i64 (sx L q).l) ∧ w'.cell? ⟨b2, o2 + q * 7 + 2, none⟩ = some (.int .i64 (sx L q).r) ∧ w'.cell? ⟨b2, o2 + q * 7 + 3, none⟩ = some (.int .i64 (sx L q).a) ∧ w'.cell? ⟨b2, o2 + q * 7 + 4, none⟩ = some (.int .i64 (sx L q).b) ∧ w'.cell? ⟨b2, o2 + q * 7 + 5, none⟩ = some (.int .i64 (sx L q).c) ∧ w'.cell? ⟨b2, o2 + q * 7 + 6, none⟩ = some (.int .i64 (sx L q).d)) (exact N9.out.later (by repeat (first | (with_reducible exact Later.refl _) | (with_reducible exact Hid.out (by assumption)) | (with_reducible refine Later.alloc ?_ _) | (with_reducible refine Later.setCell ?_ (by simp; omega) _) | (with_reducible refine Later.setCell ?_ (by simp) _) | (with_reducible refine Later.drewN ?_ _) | (with_reducible refine Later.drew ?_) | (with_reducible refine Later.trans ?_ (Hid.out (by assumption))))))
                (first | (go_at_call 116; refine (s_holds_at HV.out q (by rw [HL.out]; omega) _).mono ?_; rw [hh]; rintro e w1 ⟨rfl, hb1⟩; have H1 := Lib.hid hb1; clear hb1))
              all_goals
                go_wp2
                go_roundw
                case rel => exact ⟨k + 1, by omega, by omega, by go_num, HN.out, (by repeat (first | (with_reducible exact Later.refl _) | (with_reducible exact Hid.out (by assumption)) | (with_reducible refine Later.alloc ?_ _) | (with_reducible refine Later.setCell ?_ (by simp; omega) _) | (with_reducible refine Later.setCell ?_ (by simp) _) | (with_reducible refine Later.drewN ?_ _) | (with_reducible refine Later.drew ?_) | (with_reducible refine Later.trans ?_ (Hid.out (by assumption)))))⟩
                case measure => simp [intOf]; omega
          · obtain rfl : k = m := by omega
            have HN : Hid (bkC L F = true) := Lib.hid (by
              rw [bkC_iff, HM.out, HL.out]
              exact ⟨h2, h8, HR.out, HG0.out, HO.out⟩)
            go_wp2
            go_ret
            exact ⟨ret_b (by rw [HN.out]), (by repeat (first | (with_reducible exact Later.refl _) | (with_reducible exact Hid.out (by assumption)) | (with_reducible refine Later.alloc ?_ _) | (with_reducible refine Later.setCell ?_ (by simp; omega) _) | (with_reducible refine Later.setCell ?_ (by simp) _) | (with_reducible refine Later.drewN ?_ _) | (with_reducible refine Later.drew ?_) | (with_reducible refine Later.trans ?_ (Hid.out (by assumption)))))⟩
      · have e0 : (gx F 0 != 0) = true := by simpa using h0
        have HT : Hid (bkC L F = false) := Lib.hid (by rw [bkC_no]; rintro ⟨_, _, _, e, _⟩; exact h0 e)
        clear h0
        go_enter Try.func101, Try.ntmps101
        go_wp2_with (first
          | (go_at_call 73; refine (s_In _ _ _ _).mono ?_; rintro e w' ⟨rfl, rfl⟩)
          | (go_at_call 115; refine (s_RisesL _ m capF F n _ (HF.out.later (by repeat (first | (with_reducible exact Later.refl _) | (with_reducible exact Hid.out (by assumption)) | (with_reducible refine Later.alloc ?_ _) | (with_reducible refine Later.setCell ?_ (by simp; omega) _) | (with_reducible refine Later.setCell ?_ (by simp) _) | (with_reducible refine Later.drewN ?_ _) | (with_reducible refine Later.drew ?_) | (with_reducible refine Later.trans ?_ (Hid.out (by assumption))))))).mono ?_; rintro e w1 ⟨rfl, hb⟩; obtain ⟨H, hcc, hff, hzz⟩ := later_facts hb; clear hb; (try simp at hzz); (try simp only [World.heap_drewN, World.cell?_drewN, World.frozen?_drewN] at hcc hff)))
        go_ret
        exact ⟨ret_b (by rw [HT.out]), (by repeat (first | (with_reducible exact Later.refl _) | (with_reducible exact Hid.out (by assumption)) | (with_reducible refine Later.alloc ?_ _) | (with_reducible refine Later.setCell ?_ (by simp; omega) _) | (with_reducible refine Later.setCell ?_ (by simp) _) | (with_reducible refine Later.drewN ?_ _) | (with_reducible refine Later.drew ?_) | (with_reducible refine Later.trans ?_ (Hid.out (by assumption)))))⟩
  · have HT : Hid (bkC L F = false) := Lib.hid (by rw [bkC_no]; rintro ⟨e1, e2, _⟩; rw [HM.out] at e1 e2; exact h28 ⟨e1, e2⟩)
    have d : (decide (2 ≤ (m : Int)) && decide ((m : Int) ≤ 8)) = false := by
      rw [Bool.and_eq_false_iff]; simp; omega
    clear h28
    go_enter Try.func101, Try.ntmps101
    go_wp2_with (first
      | (go_at_call 73; refine (s_In _ _ _ _).mono ?_; rintro e w' ⟨rfl, rfl⟩))
    go_ret
    exact ⟨ret_b (by rw [HT.out]), (by repeat (first | (with_reducible exact Later.refl _) | (with_reducible exact Hid.out (by assumption)) | (with_reducible refine Later.alloc ?_ _) | (with_reducible refine Later.setCell ?_ (by simp; omega) _) | (with_reducible refine Later.setCell ?_ (by simp) _) | (with_reducible refine Later.drewN ?_ _) | (with_reducible refine Later.drew ?_) | (with_reducible refine Later.trans ?_ (Hid.out (by assumption)))))⟩
end Go.Proofs.Ytnmlkigpiaekjaa
namespace Go.Proofs.Ytnmlkigpiaekjaa
open Go.RowKit
set_option maxHeartbeats 4000000
set_option linter.unusedVariables false
set_option linter.unusedSimpArgs false
theorem s_AreBlocks (a : Option Addr) (n cap : Nat) (L : List Sg) (A : Option Addr) (m capF : Nat) (F : List Int) (w : World) (hs : Sgs w a n L) (hf : Sl w A m F) :
    Calls Try.prog 83 #[.agg #[.slice a n cap], .slice A m capF] w fun e w' => e = .returned (.bool (bkB L F)) ∧ Later w w' := by
  have HS := Lib.hid hs; have HF := Lib.hid hf
  clear hs hf
  cases hv : layB L
  · have HT := Lib.hid (bkB_nl (F := F) hv)
    go_enter Try.func83, Try.ntmps83
    go_wp2_with (first
      | (go_at_call 38; refine (s_IsLayout a n cap L _ (HS.out.later (by repeat (first | (with_reducible exact Later.refl _) | (with_reducible exact Hid.out (by assumption)) | (with_reducible refine Later.alloc ?_ _) | (with_reducible refine Later.setCell ?_ (by simp; omega) _) | (with_reducible refine Later.setCell ?_ (by simp) _) | (with_reducible refine Later.drewN ?_ _) | (with_reducible refine Later.drew ?_) | (with_reducible refine Later.trans ?_ (Hid.out (by assumption))))))).mono ?_; rw [hv]; rintro e w1 ⟨rfl, hb⟩; obtain ⟨H, hcc, hff, hzz⟩ := later_facts hb; clear hb; (try simp at hzz)))
    go_ret
    exact ⟨ret_b (by rw [HT.out]), (by repeat (first | (with_reducible exact Later.refl _) | (with_reducible exact Hid.out (by assumption)) | (with_reducible refine Later.alloc ?_ _) | (with_reducible refine Later.setCell ?_ (by simp; omega) _) | (with_reducible refine Later.setCell ?_ (by simp) _) | (with_reducible refine Later.drewN ?_ _) | (with_reducible refine Later.drew ?_) | (with_reducible refine Later.trans ?_ (Hid.out (by assumption)))))⟩
  · have HV := Lib.hid hv
    have HB : Hid (bkB L F = bkC L F) := Lib.hid (bkB_l hv)
    cases hk : bkC L F
    all_goals
      go_enter Try.func83, Try.ntmps83
      go_wp2_with (first
        | (go_at_call 38; refine (s_IsLayout a n cap L _ (HS.out.later (by repeat (first | (with_reducible exact Later.refl _) | (with_reducible exact Hid.out (by assumption)) | (with_reducible refine Later.alloc ?_ _) | (with_reducible refine Later.setCell ?_ (by simp; omega) _) | (with_reducible refine Later.setCell ?_ (by simp) _) | (with_reducible refine Later.drewN ?_ _) | (with_reducible refine Later.drew ?_) | (with_reducible refine Later.trans ?_ (Hid.out (by assumption))))))).mono ?_; rw [hv]; rintro e w1 ⟨rfl, hb⟩; obtain ⟨H, hcc, hff, hzz⟩ := later_facts hb; clear hb; (try simp at hzz))
        | (go_at_call 101; refine (s_l04Blocks a n cap L A m capF F _ (HS.out.later (by repeat (first | (with_reducible exact Later.refl _) | (with_reducible exact Hid.out (by assumption)) | (with_reducible refine Later.alloc ?_ _) | (with_reducible refine Later.setCell ?_ (by simp; omega) _) | (with_reducible refine Later.setCell ?_ (by simp) _) | (with_reducible refine Later.drewN ?_ _) | (with_reducible refine Later.drew ?_) | (with_reducible refine Later.trans ?_ (Hid.out (by assumption)))))) (HF.out.later (by repeat (first | (with_reducible exact Later.refl _) | (with_reducible exact Hid.out (by assumption)) | (with_reducible refine Later.alloc ?_ _) | (with_reducible refine Later.setCell ?_ (by simp; omega) _) | (with_reducible refine Later.setCell ?_ (by simp) _) | (with_reducible refine Later.drewN ?_ _) | (with_reducible refine Later.drew ?_) | (with_reducible refine Later.trans ?_ (Hid.out (by assumption)))))) HV.out).mono ?_; rw [hk]; rintro e w2 ⟨rfl, hb⟩; have H2 := Lib.hid hb; clear hb))
      go_ret
      exact ⟨ret_b (by rw [HB.out, hk]), (by repeat (first | (with_reducible exact Later.refl _) | (with_reducible exact Hid.out (by assumption)) | (with_reducible refine Later.alloc ?_ _) | (with_reducible refine Later.setCell ?_ (by simp; omega) _) | (with_reducible refine Later.setCell ?_ (by simp) _) | (with_reducible refine Later.drewN ?_ _) | (with_reducible refine Later.drew ?_) | (with_reducible refine Later.trans ?_ (Hid.out (by assumption)))))⟩
/-- the code of a block -/
theorem s_l04Block (a : Option Addr) (n cap : Nat) (L : List Sg) (A : Option Addr) (m capF : Nat) (F : List Int) (p : Int) (w : World) (hs : Sgs w a n L) (hf : Sl w A m F) (hp : -9223372036854775808 ≤ p) (hp2 : p ≤ 9223372036854775807) :
    Calls Try.prog 84 #[.agg #[.slice a n cap], .slice A m capF, .int .i64 p] w fun e w' => e = .returned (.int .i64 (fndE L F (isNo p))) ∧ Later w w' := by
  have HS := Lib.hid hs; have HF := Lib.hid hf; have HL := Lib.hid hs.1; have HM := Lib.hid hf.1
  have hn := hs.2.1; have hm := hf.2.1
  clear hs hf
  cases hb : bkB L F
  · have HB := Lib.hid hb
    have HT := Lib.hid (fndC_bad (p := isNo p) hb)
    clear hb
    go_enter Try.func84, Try.ntmps84
    go_wp2_with (first
      | (go_at_call 83; refine (s_AreBlocks a n cap L A m capF F _ (HS.out.later (by repeat (first | (with_reducible exact Later.refl _) | (with_reducible exact Hid.out (by assumption)) | (with_reducible refine Later.alloc ?_ _) | (with_reducible refine Later.setCell ?_ (by simp; omega) _) | (with_reducible refine Later.setCell ?_ (by simp) _) | (with_reducible refine Later.drewN ?_ _) | (with_reducible refine Later.drew ?_) | (with_reducible refine Later.trans ?_ (Hid.out (by assumption)))))) (HF.out.later (by repeat (first | (with_reducible exact Later.refl _) | (with_reducible exact Hid.out (by assumption)) | (with_reducible refine Later.alloc ?_ _) | (with_reducible refine Later.setCell ?_ (by simp; omega) _) | (with_reducible refine Later.setCell ?_ (by simp) _) | (with_reducible refine Later.drewN ?_ _) | (with_reducible refine Later.drew ?_) | (with_reducible refine Later.trans ?_ (Hid.out (by assumption))))))).mono ?_; rw [HB.out]; rintro e w1 ⟨rfl, hb⟩; obtain ⟨H, hcc, hff, hzz⟩ := later_facts hb; clear hb; (try simp at hzz)))
    go_ret
    exact ⟨ret_i64 (by rw [HT.out.2]), (by repeat (first | (with_reducible exact Later.refl _) | (with_reducible exact Hid.out (by assumption)) | (with_reducible refine Later.alloc ?_ _) | (with_reducible refine Later.setCell ?_ (by simp; omega) _) | (with_reducible refine Later.setCell ?_ (by simp) _) | (with_reducible refine Later.drewN ?_ _) | (with_reducible refine Later.drew ?_) | (with_reducible refine Later.trans ?_ (Hid.out (by assumption)))))⟩
  · have HB := Lib.hid hb
    obtain ⟨hv, hk⟩ := bkB_lay hb
    have h28 : 2 ≤ m ∧ m ≤ 8 := by have := (bkC_iff L F).1 hk; rw [HM.out] at this; omega
    obtain ⟨h2, h8⟩ := h28
    clear hv hk
    by_cases hin : 0 ≤ p ∧ p ≤ (m : Int) - 1
    · have HT : Hid (fndE L F (isNo p) = 0) := Lib.hid (by
        obtain ⟨b, rfl⟩ : ∃ b : Nat, p = (b : Int) := ⟨p.toNat, by omega⟩
        exact (fndC_some hb (fnd_isNo b (by rw [HM.out]; omega))).2)
      obtain ⟨q1, q2⟩ := hin
      clear hb
      go_enter Try.func84, Try.ntmps84
      go_wp2_with (first
        | (go_at_call 83; refine (s_AreBlocks a n cap L A m capF F _ (HS.out.later (by repeat (first | (with_reducible exact Later.refl _) | (with_reducible exact Hid.out (by assumption)) | (with_reducible refine Later.alloc ?_ _) | (with_reducible refine Later.setCell ?_ (by simp; omega) _) | (with_reducible refine Later.setCell ?_ (by simp) _) | (with_reducible refine Later.drewN ?_ _) | (with_reducible refine Later.drew ?_) | (with_reducible refine Later.trans ?_ (Hid.out (by assumption)))))) (HF.out.later (by repeat (first | (with_reducible exact Later.refl _) | (with_reducible exact Hid.out (by assumption)) | (with_reducible refine Later.alloc ?_ _) | (with_reducible refine Later.setCell ?_ (by simp; omega) _) | (with_reducible refine Later.setCell ?_ (by simp) _) | (with_reducible refine Later.drewN ?_ _) | (with_reducible refine Later.drew ?_) | (with_reducible refine Later.trans ?_ (Hid.out (by assumption))))))).mono ?_; rw [HB.out]; rintro e w1 ⟨rfl, hb⟩; obtain ⟨H, hcc, hff, hzz⟩ := later_facts hb; clear hb; (try simp at hzz))
        | (go_at_call 73; refine (s_In _ _ _ _).mono ?_; rintro e w' ⟨rfl, rfl⟩))
      go_ret
      exact ⟨ret_i64 (by rw [HT.out]), (by repeat (first | (with_reducible exact Later.refl _) | (with_reducible exact Hid.out (by assumption)) | (with_reducible refine Later.alloc ?_ _) | (with_reducible refine Later.setCell ?_ (by simp; omega) _) | (with_reducible refine Later.setCell ?_ (by simp) _) | (with_reducible refine Later.drewN ?_ _) | (with_reducible refine Later.drew ?_) | (with_reducible refine Later.trans ?_ (Hid.out (by assumption)))))⟩
    · have HT : Hid (fndE L F (isNo p) = 2) := Lib.hid (fndC_none hb (fnd_isNo_no p (by rw [HM.out]; omega))).2
      have d : (decide (0 ≤ p) && decide (p ≤ (m : Int) - 1)) = false := by simpa using hin
      clear hin hb
      go_enter Try.func84, Try.ntmps84
      go_wp2_with (first
        | (go_at_call 83; refine (s_AreBlocks a n cap L A m capF F _ (HS.out.later (by repeat (first | (with_reducible exact Later.refl _) | (with_reducible exact Hid.out (by assumption)) | (with_reducible refine Later.alloc ?_ _) | (with_reducible refine Later.setCell ?_ (by simp; omega) _) | (with_reducible refine Later.setCell ?_ (by simp) _) | (with_reducible refine Later.drewN ?_ _) | (with_reducible refine Later.drew ?_) | (with_reducible refine Later.trans ?_ (Hid.out (by assumption)))))) (HF.out.later (by repeat (first | (with_reducible exact Later.refl _) | (with_reducible exact Hid.out (by assumption)) | (with_reducible refine Later.alloc ?_ _) | (with_reducible refine Later.setCell ?_ (by simp; omega) _) | (with_reducible refine Later.setCell ?_ (by simp) _) | (with_reducible refine Later.drewN ?_ _) | (with_reducible refine Later.drew ?_) | (with_reducible refine Later.trans ?_ (Hid.out (by assumption))))))).mono ?_; rw [HB.out]; rintro e w1 ⟨rfl, hb⟩; obtain ⟨H, hcc, hff, hzz⟩ := later_facts hb; clear hb; (try simp at hzz))
        | (go_at_call 73; refine (s_In _ _ _ _).mono ?_; rintro e w' ⟨rfl, rfl⟩))
      go_ret
      exact ⟨ret_i64 (by rw [HT.out]), (by repeat (first | (with_reducible exact Later.refl _) | (with_reducible exact Hid.out (by assumption)) | (with_reducible refine Later.alloc ?_ _) | (with_reducible refine Later.setCell ?_ (by simp; omega) _) | (with_reducible refine Later.setCell ?_ (by simp) _) | (with_reducible refine Later.drewN ?_ _) | (with_reducible refine Later.drew ?_) | (with_reducible refine Later.trans ?_ (Hid.out (by assumption)))))⟩
/-- the index behind a block's last segment -/
theorem s_l04End (a : Option Addr) (n cap : Nat) (L : List Sg) (A : Option Addr) (m capF : Nat) (F : List Int) (b : Nat) (w : World) (hs : Sgs w a n L) (hf : Sl w A m F) (hk : bkC L F = true) (hb : b < m) :
    Calls Try.prog 56 #[.agg #[.slice a n cap], .slice A m capF, .int .i64 b] w fun e w' => e = .returned (.int .i64 (endK L F b)) ∧ Later w w' := by
  have HS := Lib.hid hs; have HF := Lib.hid hf; have HL := Lib.hid hs.1; have HM := Lib.hid hf.1
  have hn := hs.2.1
  obtain ⟨h2, h8, hr, _, _⟩ := (bkC_iff L F).1 hk
  rw [HM.out] at h2 h8
  by_cases hlt : b + 1 < m
  · obtain ⟨bF, oF, rfl, hc⟩ := hf.at (b + 1) hlt
    rw [(ris_nat hr (b + 1) (by rw [HM.out]; exact hlt)).1] at hc
    have HE : Hid (endK L F b = fstK F (b + 1)) := Lib.hid (endK_next b (by rw [HM.out]; exact hlt))
    have hbF := cell_lt hc
    have hkm : ((b : Int) + 1 < m) := by omega
    clear hs hf hk hr
    go_enter Try.func56, Try.ntmps56
    go_wp2_with fail
    go_ret
    exact ⟨ret_i64 (by rw [HE.out]), (by repeat (first | (with_reducible exact Later.refl _) | (with_reducible exact Hid.out (by assumption)) | (with_reducible refine Later.alloc ?_ _) | (with_reducible refine Later.setCell ?_ (by simp; omega) _) | (with_reducible refine Later.setCell ?_ (by simp) _) | (with_reducible refine Later.drewN ?_ _) | (with_reducible refine Later.drew ?_) | (with_reducible refine Later.trans ?_ (Hid.out (by assumption)))))⟩
  · have HE : Hid (endK L F b = n) := Lib.hid (by rw [endK_last b (by rw [HM.out]; omega)]; exact HL.out)
    have hkm : ¬ ((b : Int) + 1 < m) := by omega
    clear hs hf hk hr
    go_enter Try.func56, Try.ntmps56
    go_wp2_with fail
    go_ret
    exact ⟨ret_i64 (by rw [HE.out]), (by repeat (first | (with_reducible exact Later.refl _) | (with_reducible exact Hid.out (by assumption)) | (with_reducible refine Later.alloc ?_ _) | (with_reducible refine Later.setCell ?_ (by simp; omega) _) | (with_reducible refine Later.setCell ?_ (by simp) _) | (with_reducible refine Later.drewN ?_ _) | (with_reducible refine Later.drew ?_) | (with_reducible refine Later.trans ?_ (Hid.out (by assumption)))))⟩
/-- a block that is asked for by its number -/
theorem isNo_cases {L : List Sg} {F : List Int} {p : Int} (h : fndE L F (isNo p) = 0) : ∃ b : Nat, p = (b : Int) ∧ b < F.length ∧ layB L = true ∧ bkC L F = true ∧ fndC L F (isNo p) = sec L F b := by
  cases hb : bkB L F
  · rw [(fndC_bad hb).2] at h; cases h
  · obtain ⟨hv, hk⟩ := bkB_lay hb
    by_cases hin : 0 ≤ p ∧ p < F.length
    · obtain ⟨b, rfl⟩ : ∃ b : Nat, p = (b : Int) := ⟨p.toNat, by omega⟩
      exact ⟨b, rfl, by omega, hv, hk, (fndC_some hb (fnd_isNo b (by omega))).1⟩
    · rw [(fndC_none hb (fnd_isNo_no p (by omega))).2] at h; cases h
theorem two_cells' {w w' : World} {B b o : Nat} {u v : Value} (h : w.cell? ⟨B, 0, none⟩ = some u) (k : w.cell? ⟨b, o, none⟩ = some v) (hb : Later w w') : w'.cell? ⟨B, 0, none⟩ = some u ∧ w'.cell? ⟨b, o, none⟩ = some v :=
  ⟨by rw [hb.cell (p := ⟨B, 0, none⟩) (cell_lt h)]; exact h, by rw [hb.cell (p := ⟨b, o, none⟩) (cell_lt k)]; exact k⟩
end Go.Proofs.Ytnmlkigpiaekjaa
namespace Go.Proofs.Ytnmlkigpiaekjaa
open Go.RowKit
set_option maxHeartbeats 4000000
set_option linter.unusedVariables false
set_option linter.unusedSimpArgs false
theorem ebE_ok {L : List Sg} {F : List Int} {b : Nat} (h : fndE L F (isNo b) = 0) : ebE L F b = kE L F b := by
  unfold ebE kE; rw [if_pos h]; rfl
theorem ret_bi {p q : Bool} {x y : Int} (h : p = q) (k : x = y) : Ending.returned (.tuple #[.bool p, .int .i64 x]) = .returned (.tuple #[.bool q, .int .i64 y]) := by rw [h, k]
/-- may a train enter, said by the bounds -/
theorem meB_in {L : List Sg} {F : List Int} {b : Nat} {x y : Int} (h0 : fndE L F (isNo b) = 0) (he : enB x y = true) : meE L F b x y = 0 ∧ meB L F b x y = (okK L F b && (decide (loK L F b ≤ x) && decide (y ≤ hiK L F b))) := by
  have e : meE L F b x y = 0 := by unfold meE; rw [if_pos he, h0]
  refine ⟨e, ?_⟩
  unfold meB
  rw [e]
  rfl
theorem lo_hi_bd {L : List Sg} {F : List Int} {b n : Nat} (hv : layB L = true) (hk : bkC L F = true) (hb : b < F.length) : 0 ≤ loK L F b ∧ loK L F b ≤ 300000000000 ∧ hiK L F b ≤ 10000000000 := by
  obtain ⟨f, h, c, y, R, B⟩ := bl_of hv hk hb rfl
  have hc24 : c ≤ 24 := by have := B.ce; have := B.n24; have := B.lt; omega
  have h1 := ndN_bd R B.Rok c (by rw [B.Rl]; exact Nat.le_refl _)
  have h2 := hgK_le R c
  have e1 : loK L F b = ndN R c := by unfold loK; rw [← B.Re, ← B.cn]
  have e2 : hiK L F b ≤ hgK R c := by
    unfold hiK
    rw [← B.Re, ← B.cn]
    split
    · omega
    · exact Int.le_refl _
  omega
set_option maxRecDepth 100000 in
theorem i_MayEnter (a : Option Addr) (n cap : Nat) (L : List Sg) (A : Option Addr) (m capF : Nat) (F : List Int) (p x y : Int) (w : World) (hs : Sgs w a n L) (hf : Sl w A m F) (hcn : n ≤ cap) (hcF : m ≤ capF) :
    Calls Try.prog 62 #[.agg #[.slice a n cap], .slice A m capF, .int .i64 p, .agg #[.int .i64 x, .int .i64 y]] w fun e w' => e = .returned (.tuple #[.bool (meB L F p x y), .int .i64 (meE L F p x y)]) ∧ Later w w' := by
  have HC := fun w => i_sectionNumbered a n cap L A m capF F p w
  have HS := Lib.hid hs; have HF := Lib.hid hf
  cases he : enB x y
  · have e1 : Hid (meE L F p x y = 1) := Lib.hid (by unfold meE; rw [he]; rfl)
    have e2 : Hid (meB L F p x y = false) := Lib.hid (by unfold meB; rw [e1.out]; rfl)
    clear hs hf
    go_enter Try.func62, Try.ntmps62
    go_wp2_with (first | (go_at_call 42; refine (i_IsEnergy _ _ _).mono ?_; rintro e w1 ⟨rfl, hb⟩; obtain ⟨H, hcc, hff, hzz⟩ := later_facts hb; clear hb; (try simp at hzz); (try simp only [World.heap_drewN, World.cell?_drewN, World.frozen?_drewN] at hcc hff); have hz0 : w.heap.size < w1.heap.size := (by omega); (try (have hz1 : w.heap.size + 1 < w1.heap.size := (by omega))); (try (have hz2 : w.heap.size + 1 + 1 < w1.heap.size := (by omega))); (try (have hz3 : w.heap.size + 1 + 1 + 1 < w1.heap.size := (by omega))); (try (have hz4 : w.heap.size + 1 + 1 + 1 + 1 < w1.heap.size := (by omega)))))
    go_ret2
    exact ⟨ret_bi (by rw [e2.out]) (by rw [e1.out]), (by repeat (first | (with_reducible exact Later.refl _) | (with_reducible exact Hid.out (by assumption)) | (with_reducible refine Later.alloc ?_ _) | (with_reducible refine Later.setCell ?_ (by simp; omega) _) | (with_reducible refine Later.setCell ?_ (by simp) _) | (with_reducible refine Later.drewN ?_ _) | (with_reducible refine Later.drew ?_) | (with_reducible refine Later.trans ?_ (Hid.out (by assumption)))))⟩
  · by_cases h0 : fndE L F (isNo p) = 0
    · obtain ⟨b, rfl, hb, hv, hk, hsec⟩ := isNo_cases h0
      have HE := fun w (h : Sgs w a n L) => i_entryBounds a n cap L F b w h hcn hv hk hb
      rw [h0, hsec] at HC
      unfold scV at HC HE
      obtain ⟨e1, e2⟩ := meB_in h0 he
      have hbd := lo_hi_bd (n := n) hv hk hb
      have hen := (enB_iff x y).1 he
      generalize sec L F b = z at *
      obtain ⟨x0, x1, x2, x3, x4⟩ := z
      dsimp only at HC HE
      have E1 := Lib.hid e1
      cases ho : okK L F b
      · have ek : kE L F b = 5 := by unfold kE; rw [ho]; rfl
        rw [ho] at e2
        have E2 : Hid (meB L F b x y = false) := Lib.hid e2
        rw [ek] at HE
        clear hs hf h0 hsec e1 e2 hv hk hb hbd hen ek ho
        generalize okV 5 (loK L F b) = lo at *
        generalize okV 5 (hiK L F b) = hi at *
        go_enter Try.func62, Try.ntmps62
        go_wp2_with (first
          | (go_at_call 42; refine (i_IsEnergy _ _ _).mono ?_; rintro e w1 ⟨rfl, hb⟩; obtain ⟨H, hcc, hff, hzz⟩ := later_facts hb; clear hb; (try simp at hzz); (try simp only [World.heap_drewN, World.cell?_drewN, World.frozen?_drewN] at hcc hff); have hz0 : w.heap.size < w1.heap.size := (by omega); (try (have hz1 : w.heap.size + 1 < w1.heap.size := (by omega))); (try (have hz2 : w.heap.size + 1 + 1 < w1.heap.size := (by omega))); (try (have hz3 : w.heap.size + 1 + 1 + 1 < w1.heap.size := (by omega))); (try (have hz4 : w.heap.size + 1 + 1 + 1 + 1 < w1.heap.size := (by omega))))
          | (go_at_call 63; refine (HC _ (HS.out.later (by repeat (first | (with_reducible exact Later.refl _) | (with_reducible exact Hid.out (by assumption)) | (with_reducible refine Later.alloc ?_ _) | (with_reducible refine Later.setCell ?_ (by simp; omega) _) | (with_reducible refine Later.setCell ?_ (by simp) _) | (with_reducible refine Later.drewN ?_ _) | (with_reducible refine Later.drew ?_) | (with_reducible refine Later.trans ?_ (Hid.out (by assumption)))))) (HF.out.later (by repeat (first | (with_reducible exact Later.refl _) | (with_reducible exact Hid.out (by assumption)) | (with_reducible refine Later.alloc ?_ _) | (with_reducible refine Later.setCell ?_ (by simp; omega) _) | (with_reducible refine Later.setCell ?_ (by simp) _) | (with_reducible refine Later.drewN ?_ _) | (with_reducible refine Later.drew ?_) | (with_reducible refine Later.trans ?_ (Hid.out (by assumption)))))) hcn hcF).mono ?_; rintro e w1 ⟨rfl, hb⟩; obtain ⟨H, hcc, hff, hzz⟩ := later_facts hb; clear hb; (try simp at hzz); have hz0 : w.heap.size < w1.heap.size := (by omega); have hz1 : w.heap.size + 1 < w1.heap.size := (by omega))
          | (go_at_call 87; refine (HE _ (HS.out.later (by repeat (first | (with_reducible exact Later.refl _) | (with_reducible exact Hid.out (by assumption)) | (with_reducible refine Later.alloc ?_ _) | (with_reducible refine Later.setCell ?_ (by simp; omega) _) | (with_reducible refine Later.setCell ?_ (by simp) _) | (with_reducible refine Later.drewN ?_ _) | (with_reducible refine Later.drew ?_) | (with_reducible refine Later.trans ?_ (Hid.out (by assumption))))))).mono ?_; rintro e w2 ⟨rfl, hb⟩; obtain ⟨H, hcc, hff, hzz⟩ := later_facts hb; clear hb; (try simp at hzz); have hz0 : w.heap.size < w2.heap.size := (by omega); have hz1 : w.heap.size + 1 < w2.heap.size := (by omega)))
        go_ret2
        exact ⟨ret_bi (by rw [E2.out]) (by rw [E1.out]), (by repeat (first | (with_reducible exact Later.refl _) | (with_reducible exact Hid.out (by assumption)) | (with_reducible refine Later.alloc ?_ _) | (with_reducible refine Later.setCell ?_ (by simp; omega) _) | (with_reducible refine Later.setCell ?_ (by simp) _) | (with_reducible refine Later.drewN ?_ _) | (with_reducible refine Later.drew ?_) | (with_reducible refine Later.trans ?_ (Hid.out (by assumption)))))⟩
      · have ek : kE L F b = 0 := by unfold kE; rw [ho]; rfl
        have hle : loK L F b ≤ hiK L F b := by unfold okK at ho; simp at ho; exact ho.2
        rw [ho] at e2
        rw [ek] at HE
        have q1 : okV 0 (loK L F b) = loK L F b := rfl
        have q2 : okV 0 (hiK L F b) = hiK L F b := rfl
        rw [q1, q2] at HE
        obtain ⟨c, hc⟩ : ∃ c, c = meB L F b x y := ⟨_, rfl⟩
        have HW : Hid (winB (ivB x y && ivB (loK L F b) (hiK L F b)) x y (loK L F b) (hiK L F b) = c) := Lib.hid (by
          rw [hc, e2]
          have i1 : ivB x y = true := by rw [ivB_iff]; omega
          have i2 : ivB (loK L F b) (hiK L F b) = true := by rw [ivB_iff]; omega
          rw [i1, i2]
          unfold winB
          simp)
        have E2 := Lib.hid hc
        clear hs hf h0 hsec e1 e2 hv hk hb hbd hen ek ho hle q1 q2 hc
        generalize loK L F b = lo at *
        generalize hiK L F b = hi at *
        have HI := fun w => i_IsWithin x y lo hi w
        rw [HW.out] at HI
        go_enter Try.func62, Try.ntmps62
        go_wp2_with (first
          | (go_at_call 42; refine (i_IsEnergy _ _ _).mono ?_; rintro e w1 ⟨rfl, hb⟩; obtain ⟨H, hcc, hff, hzz⟩ := later_facts hb; clear hb; (try simp at hzz); (try simp only [World.heap_drewN, World.cell?_drewN, World.frozen?_drewN] at hcc hff); have hz0 : w.heap.size < w1.heap.size := (by omega); (try (have hz1 : w.heap.size + 1 < w1.heap.size := (by omega))); (try (have hz2 : w.heap.size + 1 + 1 < w1.heap.size := (by omega))); (try (have hz3 : w.heap.size + 1 + 1 + 1 < w1.heap.size := (by omega))); (try (have hz4 : w.heap.size + 1 + 1 + 1 + 1 < w1.heap.size := (by omega))))
          | (go_at_call 63; refine (HC _ (HS.out.later (by repeat (first | (with_reducible exact Later.refl _) | (with_reducible exact Hid.out (by assumption)) | (with_reducible refine Later.alloc ?_ _) | (with_reducible refine Later.setCell ?_ (by simp; omega) _) | (with_reducible refine Later.setCell ?_ (by simp) _) | (with_reducible refine Later.drewN ?_ _) | (with_reducible refine Later.drew ?_) | (with_reducible refine Later.trans ?_ (Hid.out (by assumption)))))) (HF.out.later (by repeat (first | (with_reducible exact Later.refl _) | (with_reducible exact Hid.out (by assumption)) | (with_reducible refine Later.alloc ?_ _) | (with_reducible refine Later.setCell ?_ (by simp; omega) _) | (with_reducible refine Later.setCell ?_ (by simp) _) | (with_reducible refine Later.drewN ?_ _) | (with_reducible refine Later.drew ?_) | (with_reducible refine Later.trans ?_ (Hid.out (by assumption)))))) hcn hcF).mono ?_; rintro e w1 ⟨rfl, hb⟩; obtain ⟨H, hcc, hff, hzz⟩ := later_facts hb; clear hb; (try simp at hzz); have hz0 : w.heap.size < w1.heap.size := (by omega); have hz1 : w.heap.size + 1 < w1.heap.size := (by omega))
          | (go_at_call 87; refine (HE _ (HS.out.later (by repeat (first | (with_reducible exact Later.refl _) | (with_reducible exact Hid.out (by assumption)) | (with_reducible refine Later.alloc ?_ _) | (with_reducible refine Later.setCell ?_ (by simp; omega) _) | (with_reducible refine Later.setCell ?_ (by simp) _) | (with_reducible refine Later.drewN ?_ _) | (with_reducible refine Later.drew ?_) | (with_reducible refine Later.trans ?_ (Hid.out (by assumption))))))).mono ?_; rintro e w2 ⟨rfl, hb⟩; obtain ⟨H, hcc, hff, hzz⟩ := later_facts hb; clear hb; (try simp at hzz); have hz0 : w.heap.size < w2.heap.size := (by omega); have hz1 : w.heap.size + 1 < w2.heap.size := (by omega))
          | (go_at_call 74; refine (HI _).mono ?_; rintro e w1 ⟨rfl, hb⟩; obtain ⟨H, hcc, hff, hzz⟩ := later_facts hb; clear hb; (try simp at hzz); (try simp only [World.heap_drewN, World.cell?_drewN, World.frozen?_drewN] at hcc hff); have hz0 : w.heap.size < w1.heap.size := (by omega); (try (have hz1 : w.heap.size + 1 < w1.heap.size := (by omega))); (try (have hz2 : w.heap.size + 1 + 1 < w1.heap.size := (by omega))); (try (have hz3 : w.heap.size + 1 + 1 + 1 < w1.heap.size := (by omega))); (try (have hz4 : w.heap.size + 1 + 1 + 1 + 1 < w1.heap.size := (by omega)))))
        go_ret2
        exact ⟨ret_bi (by rw [← E2.out]) (by rw [E1.out]), (by repeat (first | (with_reducible exact Later.refl _) | (with_reducible exact Hid.out (by assumption)) | (with_reducible refine Later.alloc ?_ _) | (with_reducible refine Later.setCell ?_ (by simp; omega) _) | (with_reducible refine Later.setCell ?_ (by simp) _) | (with_reducible refine Later.drewN ?_ _) | (with_reducible refine Later.drew ?_) | (with_reducible refine Later.trans ?_ (Hid.out (by assumption)))))⟩
    · have e1 : Hid (meE L F p x y = fndE L F (isNo p)) := Lib.hid (by unfold meE; rw [if_pos he])
      have e2 : Hid (meB L F p x y = false) := Lib.hid (by unfold meB; rw [e1.out]; simp [h0])
      unfold scV at HC
      generalize fndE L F (isNo p) = ce at *
      generalize fndC L F (isNo p) = z at *
      obtain ⟨x0, x1, x2, x3, x4⟩ := z
      dsimp only at HC
      have hne : (ce != 0) = true := by simpa using h0
      clear hs hf h0
      go_enter Try.func62, Try.ntmps62
      go_wp2_with (first
          | (go_at_call 42; refine (i_IsEnergy _ _ _).mono ?_; rintro e w1 ⟨rfl, hb⟩; obtain ⟨H, hcc, hff, hzz⟩ := later_facts hb; clear hb; (try simp at hzz); (try simp only [World.heap_drewN, World.cell?_drewN, World.frozen?_drewN] at hcc hff); have hz0 : w.heap.size < w1.heap.size := (by omega); (try (have hz1 : w.heap.size + 1 < w1.heap.size := (by omega))); (try (have hz2 : w.heap.size + 1 + 1 < w1.heap.size := (by omega))); (try (have hz3 : w.heap.size + 1 + 1 + 1 < w1.heap.size := (by omega))); (try (have hz4 : w.heap.size + 1 + 1 + 1 + 1 < w1.heap.size := (by omega))))
          | (go_at_call 63; refine (HC _ (HS.out.later (by repeat (first | (with_reducible exact Later.refl _) | (with_reducible exact Hid.out (by assumption)) | (with_reducible refine Later.alloc ?_ _) | (with_reducible refine Later.setCell ?_ (by simp; omega) _) | (with_reducible refine Later.setCell ?_ (by simp) _) | (with_reducible refine Later.drewN ?_ _) | (with_reducible refine Later.drew ?_) | (with_reducible refine Later.trans ?_ (Hid.out (by assumption)))))) (HF.out.later (by repeat (first | (with_reducible exact Later.refl _) | (with_reducible exact Hid.out (by assumption)) | (with_reducible refine Later.alloc ?_ _) | (with_reducible refine Later.setCell ?_ (by simp; omega) _) | (with_reducible refine Later.setCell ?_ (by simp) _) | (with_reducible refine Later.drewN ?_ _) | (with_reducible refine Later.drew ?_) | (with_reducible refine Later.trans ?_ (Hid.out (by assumption)))))) hcn hcF).mono ?_; rintro e w1 ⟨rfl, hb⟩; obtain ⟨H, hcc, hff, hzz⟩ := later_facts hb; clear hb; (try simp at hzz); have hz0 : w.heap.size < w1.heap.size := (by omega); have hz1 : w.heap.size + 1 < w1.heap.size := (by omega)))
      go_ret2
      exact ⟨ret_bi (by rw [e2.out]) (by rw [e1.out]), (by repeat (first | (with_reducible exact Later.refl _) | (with_reducible exact Hid.out (by assumption)) | (with_reducible refine Later.alloc ?_ _) | (with_reducible refine Later.setCell ?_ (by simp; omega) _) | (with_reducible refine Later.setCell ?_ (by simp) _) | (with_reducible refine Later.drewN ?_ _) | (with_reducible refine Later.drew ?_) | (with_reducible refine Later.trans ?_ (Hid.out (by assumption)))))⟩
end Go.Proofs.Ytnmlkigpiaekjaa
namespace Go.Proofs.Ytnmlkigpiaekjaa
open Go.RowKit
set_option maxHeartbeats 2000000
set_option linter.unusedVariables false
set_option linter.unusedSimpArgs false
theorem s_Ceil (a b : Int) (w : World) (h1 : -1000000000000 ≤ a) (h2 : a ≤ 1000000000000) (h3 : -1000000000000 ≤ b) (h4 : b ≤ 1000000000000) (h0 : b ≠ 0) :
    Calls Try.prog 60 #[.int .i64 a, .int .i64 b] w fun e w' => e = .returned (.int .i64 (cei a b)) ∧ w = w' := by
  have hb := flo_bd (-a) b 1000000000000 (by omega) (by omega)
  have hc := cei_eq a b h0
  have H := Lib.hid hc; clear hc
  go_enter Try.func60, Try.ntmps60
  go_wp2_with (go_at_call 86; refine (s_Floor _ _ _ (by omega) (by omega) h3 h4 h0).mono ?_; rintro e w' ⟨rfl, rfl⟩)
  go_ret
  exact ⟨ret_i64 (H.out).symm, rfl⟩
end Go.Proofs.Ytnmlkigpiaekjaa
namespace Go.Proofs.Ytnmlkigpiaekjaa
open Go.RowKit
set_option maxHeartbeats 400000
set_option linter.unusedVariables false
theorem sq_succ (m : Int) : (m + 1) * (m + 1) = m * m + 2 * m + 1 := by rw [Int.add_mul, Int.mul_add]; omega
theorem mid_bd (m : Int) (h0 : 0 ≤ m) (h : m ≤ 1000000) : 0 ≤ m * m ∧ m * m ≤ 1000000000000 := ⟨sq_nn m, sq_mono m 1000000 h0 h⟩
theorem rootErr_in (n : Int) (h1 : 0 ≤ n) (h2 : n ≤ 1000000000000) : rootErr n = 0 := by unfold rootErr; rw [if_pos ⟨h1, h2⟩]
theorem rootErr_out (n : Int) (h : n < 0 ∨ 1000000000000 < n) : rootErr n = 2 := by unfold rootErr; rw [if_neg (by omega)]
end Go.Proofs.Ytnmlkigpiaekjaa
namespace Go.Proofs.Ytnmlkigpiaekjaa
open Go.RowKit
set_option maxHeartbeats 4000000
set_option linter.unusedVariables false
set_option linter.unusedSimpArgs false
theorem win_en2 (a b : Int) : (ivB a b && decide (0 ≤ a) && decide (b ≤ 10000000000)) = enB a b := by
  rw [Bool.eq_iff_iff]
  unfold enB
  simp [ivB_iff]
  omega
theorem s_IsEnergy (a b : Int) (w : World) : Calls Try.prog 46 #[.agg #[.int .i64 a, .int .i64 b]] w fun e w' => e = .returned (.bool (enB a b)) ∧ Later w w' := by
  have K : ∀ w, Calls Try.prog 79 #[.agg #[.int .i64 a, .int .i64 b], .int .i64 0, .int .i64 10000000000] w fun e w' => e = .returned (.bool (enB a b)) ∧ Later w w' := by
    intro w
    have E := Lib.hid (win_en2 a b)
    cases h : ivB a b
    all_goals
      go_enter Try.func79, Try.ntmps79
      go_wp2_with (go_at_call 100; refine (s_IsInterval _ _ _).mono ?_; rintro e w1 ⟨rfl, hb⟩; obtain ⟨H, hcc, hff, hzz⟩ := later_facts hb; clear hb; (try simp at hzz); (try simp only [World.heap_drewN, World.cell?_drewN, World.frozen?_drewN] at hcc hff); have hz0 : w.heap.size < w1.heap.size := (by omega); (try (have hz1 : w.heap.size + 1 < w1.heap.size := (by omega))); (try (have hz2 : w.heap.size + 1 + 1 < w1.heap.size := (by omega))); (try (have hz3 : w.heap.size + 1 + 1 + 1 < w1.heap.size := (by omega))); (try (have hz4 : w.heap.size + 1 + 1 + 1 + 1 < w1.heap.size := (by omega))))
      all_goals
        go_ret
        exact ⟨ret_b (by rw [← E.out, h]; first | (simp_all; done) | (simp_all; omega)), (by repeat (first | (with_reducible exact Later.refl _) | (with_reducible exact Hid.out (by assumption)) | (with_reducible refine Later.alloc ?_ _) | (with_reducible refine Later.setCell ?_ (by simp; omega) _) | (with_reducible refine Later.setCell ?_ (by simp) _) | (with_reducible refine Later.drewN ?_ _) | (with_reducible refine Later.drew ?_) | (with_reducible refine Later.trans ?_ (Hid.out (by assumption)))))⟩
  go_enter Try.func46, Try.ntmps46
  go_wp2_with (go_at_call 79; refine (K _).mono ?_; rintro e w1 ⟨rfl, hb⟩; obtain ⟨H, hcc, hff, hzz⟩ := later_facts hb; clear hb; (try simp at hzz); (try simp only [World.heap_drewN, World.cell?_drewN, World.frozen?_drewN] at hcc hff))
  go_ret
  exact ⟨rfl, (by repeat (first | (with_reducible exact Later.refl _) | (with_reducible exact Hid.out (by assumption)) | (with_reducible refine Later.alloc ?_ _) | (with_reducible refine Later.setCell ?_ (by simp; omega) _) | (with_reducible refine Later.setCell ?_ (by simp) _) | (with_reducible refine Later.drewN ?_ _) | (with_reducible refine Later.drew ?_) | (with_reducible refine Later.trans ?_ (Hid.out (by assumption)))))⟩
/-- the test decided ahead -/
theorem s_InB (n a b : Int) (c : Bool) (h : (decide (a ≤ n) && decide (n ≤ b)) = c) (w : World) : Calls Try.prog 73 #[.int .i64 n, .int .i64 a, .int .i64 b] w fun e w' => e = .returned (.bool c) ∧ w = w' := by
  subst h; exact s_In n a b w
theorem k2 (b l : Int) : 2 * b * l = b * (2 * l) := by rw [Int.mul_comm 2 b, Int.mul_assoc]
theorem s_Change (x : Sg) (w : World) (h : sgB x = true) :
    Calls Try.prog 58 #[.agg #[.int .i64 x.k, .int .i64 x.l, .int .i64 x.r, .int .i64 x.a, .int .i64 x.b, .int .i64 x.c, .int .i64 x.d]] w fun e w' => e = .returned (.agg #[.int .i64 (chL x), .int .i64 (chH x)]) ∧ Later w w' := by
  obtain ⟨b1, b2, b3⟩ := k_bd x h
  rw [sgB_iff] at h
  obtain ⟨⟨k1, k2⟩, ⟨l1, l2⟩, ⟨r1, r2, r3, r4⟩, ⟨a1, a2, a3⟩, _⟩ := h
  clear r3 r4
  unfold chL chH
  unfold kL kH at *
  rw [← Go.Proofs.Ytnmlkigpiaekjaa.k2 x.a x.l] at *
  rw [← Go.Proofs.Ytnmlkigpiaekjaa.k2 x.b x.l] at *
  go_enter Try.func58, Try.ntmps58
  go_wp2
  refine bodyPost_ret (v := .agg #[.int .i64 (-19612 * x.r - 2 * x.b * x.l), .int .i64 (-19612 * x.r - 2 * x.a * x.l)]) (by simp [results, Try.results58, go_sem, *]) rfl ⟨rfl, (by repeat (first | (with_reducible exact Later.refl _) | (with_reducible exact Hid.out (by assumption)) | (with_reducible refine Later.alloc ?_ _) | (with_reducible refine Later.setCell ?_ (by simp; omega) _) | (with_reducible refine Later.setCell ?_ (by simp) _) | (with_reducible refine Later.drewN ?_ _) | (with_reducible refine Later.drew ?_) | (with_reducible refine Later.trans ?_ (Hid.out (by assumption)))))⟩
theorem s_l06Sum (a b c d : Int) (w : World) (ha : -1000000000000 ≤ a) (ha' : a ≤ 1000000000000) (hb : -1000000000000 ≤ b) (hb' : b ≤ 1000000000000) (hc : -1000000000000 ≤ c) (hc' : c ≤ 1000000000000) (hd : -1000000000000 ≤ d) (hd' : d ≤ 1000000000000) :
    Calls Try.prog 57 #[.agg #[.int .i64 a, .int .i64 b], .agg #[.int .i64 c, .int .i64 d]] w fun e w' => e = .returned (.agg #[.int .i64 (a + c), .int .i64 (b + d)]) ∧ Later w w' := by
  go_enter Try.func57, Try.ntmps57
  go_wp2
  refine bodyPost_ret (v := .agg #[.int .i64 (a + c), .int .i64 (b + d)]) (by simp [results, Try.results57, go_sem, *]) rfl ⟨rfl, (by repeat (first | (with_reducible exact Later.refl _) | (with_reducible exact Hid.out (by assumption)) | (with_reducible refine Later.alloc ?_ _) | (with_reducible refine Later.setCell ?_ (by simp; omega) _) | (with_reducible refine Later.setCell ?_ (by simp) _) | (with_reducible refine Later.drewN ?_ _) | (with_reducible refine Later.drew ?_) | (with_reducible refine Later.trans ?_ (Hid.out (by assumption)))))⟩
theorem s_Check (a b : Int) (w : World) :
    Calls Try.prog 80 #[.agg #[.int .i64 a, .int .i64 b]] w fun e w' => e = .returned (.tuple #[.agg #[.int .i64 (okV (codE a b) a), .int .i64 (okV (codE a b) b)], .int .i64 (codE a b)]) ∧ Later w w' := by
  by_cases h0 : a < 0
  · have e : codE a b = 5 := by unfold codE; rw [if_pos h0]
    rw [e]
    go_enter Try.func80, Try.ntmps80
    go_wp2
    refine bodyPost_ret (v := .tuple #[.agg #[.int .i64 (okV 5 a), .int .i64 (okV 5 b)], .int .i64 5]) (by simp [results, Try.results80, go_sem, okV, *]) rfl ⟨rfl, (by repeat (first | (with_reducible exact Later.refl _) | (with_reducible exact Hid.out (by assumption)) | (with_reducible refine Later.alloc ?_ _) | (with_reducible refine Later.setCell ?_ (by simp; omega) _) | (with_reducible refine Later.setCell ?_ (by simp) _) | (with_reducible refine Later.drewN ?_ _) | (with_reducible refine Later.drew ?_) | (with_reducible refine Later.trans ?_ (Hid.out (by assumption)))))⟩
  · by_cases h1 : b ≤ 10000000000
    · have e : codE a b = 0 := by unfold codE; rw [if_neg h0, if_pos h1]
      rw [e]
      go_enter Try.func80, Try.ntmps80
      go_wp2
      refine bodyPost_ret (v := .tuple #[.agg #[.int .i64 (okV 0 a), .int .i64 (okV 0 b)], .int .i64 0]) (by simp [results, Try.results80, go_sem, okV, *]) rfl ⟨rfl, (by repeat (first | (with_reducible exact Later.refl _) | (with_reducible exact Hid.out (by assumption)) | (with_reducible refine Later.alloc ?_ _) | (with_reducible refine Later.setCell ?_ (by simp; omega) _) | (with_reducible refine Later.setCell ?_ (by simp) _) | (with_reducible refine Later.drewN ?_ _) | (with_reducible refine Later.drew ?_) | (with_reducible refine Later.trans ?_ (Hid.out (by assumption)))))⟩
    · have e : codE a b = 3 := by unfold codE; rw [if_neg h0, if_neg h1]
      rw [e]
      go_enter Try.func80, Try.ntmps80
      go_wp2
      refine bodyPost_ret (v := .tuple #[.agg #[.int .i64 (okV 3 a), .int .i64 (okV 3 b)], .int .i64 3]) (by simp [results, Try.results80, go_sem, okV, *]) rfl ⟨rfl, (by repeat (first | (with_reducible exact Later.refl _) | (with_reducible exact Hid.out (by assumption)) | (with_reducible refine Later.alloc ?_ _) | (with_reducible refine Later.setCell ?_ (by simp; omega) _) | (with_reducible refine Later.setCell ?_ (by simp) _) | (with_reducible refine Later.drewN ?_ _) | (with_reducible refine Later.drew ?_) | (with_reducible refine Later.trans ?_ (Hid.out (by assumption)))))⟩
end Go.Proofs.Ytnmlkigpiaekjaa
namespace Go.Proofs.Ytnmlkigpiaekjaa
open Go.RowKit
set_option maxHeartbeats 4000000
set_option linter.unusedVariables false
set_option linter.unusedSimpArgs false
theorem s_EnergyAfter (x : Sg) (a b : Int) (w : World) :
    Calls Try.prog 47 #[.agg #[.int .i64 x.k, .int .i64 x.l, .int .i64 x.r, .int .i64 x.a, .int .i64 x.b, .int .i64 x.c, .int .i64 x.d], .agg #[.int .i64 a, .int .i64 b]] w fun e w' => e = .returned (.tuple #[.agg #[.int .i64 (afL x a b), .int .i64 (afH x a b)], .int .i64 (afE x a b)]) ∧ Later w w' := by
  cases h : sgB x
  · have e1 : afE x a b = 1 := by unfold afE; rw [h]; rfl
    unfold afL afH
    rw [e1]
    go_enter Try.func47, Try.ntmps47
    go_wp2_with (first | (go_at_call 72; refine (s_IsSegment x _).mono ?_; rintro e w1 ⟨rfl, hb⟩; obtain ⟨H, hcc, hff, hzz⟩ := later_facts hb; clear hb; (try simp at hzz); (try simp only [World.heap_drewN, World.cell?_drewN, World.frozen?_drewN] at hcc hff); have hz0 : w.heap.size < w1.heap.size := (by omega); (try (have hz1 : w.heap.size + 1 < w1.heap.size := (by omega))); (try (have hz2 : w.heap.size + 1 + 1 < w1.heap.size := (by omega))); (try (have hz3 : w.heap.size + 1 + 1 + 1 < w1.heap.size := (by omega))); (try (have hz4 : w.heap.size + 1 + 1 + 1 + 1 < w1.heap.size := (by omega)))))
    refine bodyPost_ret (v := .tuple #[.agg #[.int .i64 (okV 1 (a + chL x)), .int .i64 (okV 1 (b + chH x))], .int .i64 1]) (by simp [results, Try.results47, go_sem, okV, *]) rfl ⟨rfl, (by repeat (first | (with_reducible exact Later.refl _) | (with_reducible exact Hid.out (by assumption)) | (with_reducible refine Later.alloc ?_ _) | (with_reducible refine Later.setCell ?_ (by simp; omega) _) | (with_reducible refine Later.setCell ?_ (by simp) _) | (with_reducible refine Later.drewN ?_ _) | (with_reducible refine Later.drew ?_) | (with_reducible refine Later.trans ?_ (Hid.out (by assumption)))))⟩
  · cases h2 : enB a b
    · have e1 : afE x a b = 1 := by unfold afE; rw [h, h2]; rfl
      unfold afL afH
      rw [e1]
      go_enter Try.func47, Try.ntmps47
      go_upto_region 1 with (fail)
      refine into (fun W => Held [(w.heap.size + 1, 0, .int .i64 a), (w.heap.size + 1, 1, .int .i64 b), (w.heap.size, 0, .int .i64 x.k), (w.heap.size, 1, .int .i64 x.l), (w.heap.size, 2, .int .i64 x.r), (w.heap.size, 3, .int .i64 x.a), (w.heap.size, 4, .int .i64 x.b), (w.heap.size, 5, .int .i64 x.c), (w.heap.size, 6, .int .i64 x.d)] w W ∧ Fr (w.heap.size + 1 + 1) [.int .i64 0, .int .i64 0] W) ⟨?_, ?_⟩ ?_
      · exact (held_box (held_box (held_start w) w.heap.size [.int .i64 x.k, .int .i64 x.l, .int .i64 x.r, .int .i64 x.a, .int .i64 x.b, .int .i64 x.c, .int .i64 x.d] _ rfl) (w.heap.size + 1) [.int .i64 a, .int .i64 b] _ (by simp)).alloc _
      · have F := fr_alloc (X := (w.alloc (.cells [.int .i64 x.k, .int .i64 x.l, .int .i64 x.r, .int .i64 x.a, .int .i64 x.b, .int .i64 x.c, .int .i64 x.d].toArray 77)).alloc (.cells [Value.int .i64 a, .int .i64 b].toArray 28)) (l := [.int .i64 0, .int .i64 0]) (T := 28) (Later.refl _)
        simp only [World.size_alloc] at F
        exact F
      rintro W ⟨hW, hF⟩
      obtain ⟨p7, p8, p0, p1, p2, p3, p4, p5, p6, _⟩ := Held.s9 hW
      obtain ⟨r0, r1, r2, r3⟩ := Fr.o2 hF
      have zz := hW.1
      simp at zz
      obtain ⟨⟨z1, _⟩, _, ⟨z0, _⟩, _⟩ := zz
      have z2 := hF.lt
      have HW := Lib.hid (Held.is hW)
      clear hW hF
      go_wp2_with (first | (go_at_call 72; refine (s_IsSegment x _).mono ?_; rintro e w1 ⟨rfl, hb⟩; obtain ⟨H, hcc, hff, hzz⟩ := later_facts hb; clear hb; (try simp at hzz); (try simp only [World.heap_drewN, World.cell?_drewN, World.frozen?_drewN] at hcc hff); have hz0 : w.heap.size < w1.heap.size := (by omega); (try (have hz1 : w.heap.size + 1 < w1.heap.size := (by omega))); (try (have hz2 : w.heap.size + 1 + 1 < w1.heap.size := (by omega))); (try (have hz3 : w.heap.size + 1 + 1 + 1 < w1.heap.size := (by omega))); (try (have hz4 : w.heap.size + 1 + 1 + 1 + 1 < w1.heap.size := (by omega)))) | (go_at_call 46; refine (s_IsEnergy _ _ _).mono ?_; rintro e w1 ⟨rfl, hb⟩; obtain ⟨H, hcc, hff, hzz⟩ := later_facts hb; clear hb; (try simp at hzz); (try simp only [World.heap_drewN, World.cell?_drewN, World.frozen?_drewN] at hcc hff); have hz0 : w.heap.size < w1.heap.size := (by omega); (try (have hz1 : w.heap.size + 1 < w1.heap.size := (by omega))); (try (have hz2 : w.heap.size + 1 + 1 < w1.heap.size := (by omega))); (try (have hz3 : w.heap.size + 1 + 1 + 1 < w1.heap.size := (by omega))); (try (have hz4 : w.heap.size + 1 + 1 + 1 + 1 < w1.heap.size := (by omega)))))
      refine bodyPost_ret (v := .tuple #[.agg #[.int .i64 (okV 1 (a + chL x)), .int .i64 (okV 1 (b + chH x))], .int .i64 1]) (by simp [results, Try.results47, go_sem, okV, *]) rfl ⟨rfl, (by repeat (first | (with_reducible exact Later.refl _) | (with_reducible exact Hid.out (by assumption)) | (with_reducible refine Later.alloc ?_ _) | (with_reducible refine Later.setCell ?_ (by simp; omega) _) | (with_reducible refine Later.setCell ?_ (by simp) _) | (with_reducible refine Later.drewN ?_ _) | (with_reducible refine Later.drew ?_) | (with_reducible refine Later.trans ?_ (Hid.out (by assumption)))))⟩
    · have e1 : afE x a b = codE (a + chL x) (b + chH x) := by unfold afE; rw [h, h2]; rfl
      unfold afL afH
      rw [e1]
      obtain ⟨c1, c2, c3⟩ := ch_bd x h
      obtain ⟨c4, c5, c6⟩ := (enB_iff a b).1 h2
      clear e1
      go_enter Try.func47, Try.ntmps47
      go_upto_region 1 with (fail)
      refine into (fun W => Held [(w.heap.size + 1, 0, .int .i64 a), (w.heap.size + 1, 1, .int .i64 b), (w.heap.size, 0, .int .i64 x.k), (w.heap.size, 1, .int .i64 x.l), (w.heap.size, 2, .int .i64 x.r), (w.heap.size, 3, .int .i64 x.a), (w.heap.size, 4, .int .i64 x.b), (w.heap.size, 5, .int .i64 x.c), (w.heap.size, 6, .int .i64 x.d)] w W ∧ Fr (w.heap.size + 1 + 1) [.int .i64 0, .int .i64 0] W) ⟨?_, ?_⟩ ?_
      · exact (held_box (held_box (held_start w) w.heap.size [.int .i64 x.k, .int .i64 x.l, .int .i64 x.r, .int .i64 x.a, .int .i64 x.b, .int .i64 x.c, .int .i64 x.d] _ rfl) (w.heap.size + 1) [.int .i64 a, .int .i64 b] _ (by simp)).alloc _
      · have F := fr_alloc (X := (w.alloc (.cells [.int .i64 x.k, .int .i64 x.l, .int .i64 x.r, .int .i64 x.a, .int .i64 x.b, .int .i64 x.c, .int .i64 x.d].toArray 77)).alloc (.cells [Value.int .i64 a, .int .i64 b].toArray 28)) (l := [.int .i64 0, .int .i64 0]) (T := 28) (Later.refl _)
        simp only [World.size_alloc] at F
        exact F
      rintro W ⟨hW, hF⟩
      obtain ⟨p7, p8, p0, p1, p2, p3, p4, p5, p6, _⟩ := Held.s9 hW
      obtain ⟨r0, r1, r2, r3⟩ := Fr.o2 hF
      have zz := hW.1
      simp at zz
      obtain ⟨⟨z1, _⟩, _, ⟨z0, _⟩, _⟩ := zz
      have z2 := hF.lt
      have HW := Lib.hid (Held.is hW)
      go_wp2_with (first | (go_at_call 72; refine (s_IsSegment x _).mono ?_; rintro e w1 ⟨rfl, hb⟩; obtain ⟨H, hcc, hff, hzz⟩ := later_facts hb; clear hb; (try simp at hzz); (try simp only [World.heap_drewN, World.cell?_drewN, World.frozen?_drewN] at hcc hff); have hz0 : w.heap.size < w1.heap.size := (by omega); (try (have hz1 : w.heap.size + 1 < w1.heap.size := (by omega))); (try (have hz2 : w.heap.size + 1 + 1 < w1.heap.size := (by omega))); (try (have hz3 : w.heap.size + 1 + 1 + 1 < w1.heap.size := (by omega))); (try (have hz4 : w.heap.size + 1 + 1 + 1 + 1 < w1.heap.size := (by omega)))) | (go_at_call 46; refine (s_IsEnergy _ _ _).mono ?_; rintro e w1 ⟨rfl, hb⟩; obtain ⟨H, hcc, hff, hzz⟩ := later_facts hb; clear hb; (try simp at hzz); (try simp only [World.heap_drewN, World.cell?_drewN, World.frozen?_drewN] at hcc hff); have hz0 : w.heap.size < w1.heap.size := (by omega); (try (have hz1 : w.heap.size + 1 < w1.heap.size := (by omega))); (try (have hz2 : w.heap.size + 1 + 1 < w1.heap.size := (by omega))); (try (have hz3 : w.heap.size + 1 + 1 + 1 < w1.heap.size := (by omega))); (try (have hz4 : w.heap.size + 1 + 1 + 1 + 1 < w1.heap.size := (by omega)))))
      refine into (fun W => Held [(w.heap.size + 1, 0, .int .i64 a), (w.heap.size + 1, 1, .int .i64 b), (w.heap.size, 0, .int .i64 x.k), (w.heap.size, 1, .int .i64 x.l), (w.heap.size, 2, .int .i64 x.r), (w.heap.size, 3, .int .i64 x.a), (w.heap.size, 4, .int .i64 x.b), (w.heap.size, 5, .int .i64 x.c), (w.heap.size, 6, .int .i64 x.d)] w W ∧ Fr (w.heap.size + 1 + 1) [.int .i64 0, .int .i64 0] W) ⟨Held.later hW (by repeat (first | (with_reducible exact Later.refl _) | (with_reducible exact Hid.out (by assumption)) | (with_reducible refine Later.alloc ?_ _) | (with_reducible refine Later.setCell ?_ (by simp; omega) _) | (with_reducible refine Later.setCell ?_ (by simp) _) | (with_reducible refine Later.drewN ?_ _) | (with_reducible refine Later.drew ?_) | (with_reducible refine Later.trans ?_ (Hid.out (by assumption))))), fr_later hF (by repeat (first | (with_reducible exact Later.refl _) | (with_reducible exact Hid.out (by assumption)) | (with_reducible refine Later.alloc ?_ _) | (with_reducible refine Later.setCell ?_ (by simp; omega) _) | (with_reducible refine Later.setCell ?_ (by simp) _) | (with_reducible refine Later.drewN ?_ _) | (with_reducible refine Later.drew ?_) | (with_reducible refine Later.trans ?_ (Hid.out (by assumption)))))⟩ ?_
      clear p0 p1 p2 p3 p4 p5 p6 p7 p8 r0 r1 r2 r3
      rintro W ⟨hW, F⟩
      go_region_held3 (fun w' => w'.cell? ⟨w.heap.size + 1, 0, none⟩ = some (.int .i64 a) ∧ w'.cell? ⟨w.heap.size + 1, 1, none⟩ = some (.int .i64 b) ∧ w'.cell? ⟨w.heap.size, 0, none⟩ = some (.int .i64 x.k) ∧ w'.cell? ⟨w.heap.size, 1, none⟩ = some (.int .i64 x.l) ∧ w'.cell? ⟨w.heap.size, 2, none⟩ = some (.int .i64 x.r) ∧ w'.cell? ⟨w.heap.size, 3, none⟩ = some (.int .i64 x.a) ∧ w'.cell? ⟨w.heap.size, 4, none⟩ = some (.int .i64 x.b) ∧ w'.cell? ⟨w.heap.size, 5, none⟩ = some (.int .i64 x.c) ∧ w'.cell? ⟨w.heap.size, 6, none⟩ = some (.int .i64 x.d) ∧ Held [(w.heap.size + 1, 0, .int .i64 a), (w.heap.size + 1, 1, .int .i64 b), (w.heap.size, 0, .int .i64 x.k), (w.heap.size, 1, .int .i64 x.l), (w.heap.size, 2, .int .i64 x.r), (w.heap.size, 3, .int .i64 x.a), (w.heap.size, 4, .int .i64 x.b), (w.heap.size, 5, .int .i64 x.c), (w.heap.size, 6, .int .i64 x.d)] w w') ((refine Held.s9 ?_; (repeat (refine Held.setCell ?_ _ _ (by simp <;> omega) (by simp <;> omega))); refine Held.later hW ?_; repeat (first | exact Later.refl _ | refine Later.drew ?_ | refine Later.drewN ?_ _ | refine Later.alloc ?_ _ | refine Later.trans ?_ (Hid.out (by assumption)))))
        (first | (go_at_call 58; refine (s_Change x _ h).mono ?_; rintro e w1 ⟨rfl, hb⟩; have H := Lib.hid hb; (first | (have F := fr_later F hb; obtain ⟨f1, f2, f3, f4⟩ := Fr.o2 F) | (have F := fr_later F (later_undrew hb); obtain ⟨f1, f2, f3, f4⟩ := Fr.o2 F) | (have F := fr_later F (later_undrewN hb); obtain ⟨f1, f2, f3, f4⟩ := Fr.o2 F)); clear hb) | (go_at_call 57; refine (s_l06Sum _ _ _ _ _ (by omega) (by omega) (by omega) (by omega) (by omega) (by omega) (by omega) (by omega)).mono ?_; rintro e w1 ⟨rfl, hb⟩; have H := Lib.hid hb; (first | (have F := fr_later F hb; obtain ⟨f1, f2, f3, f4⟩ := Fr.o2 F) | (have F := fr_later F (later_undrew hb); obtain ⟨f1, f2, f3, f4⟩ := Fr.o2 F) | (have F := fr_later F (later_undrewN hb); obtain ⟨f1, f2, f3, f4⟩ := Fr.o2 F)); clear hb) | (go_at_call 80; refine (s_Check _ _ _).mono ?_; rintro e w1 ⟨rfl, hb⟩; have H := Lib.hid hb; (first | (have F := fr_later F hb; obtain ⟨f1, f2, f3, f4⟩ := Fr.o2 F) | (have F := fr_later F (later_undrew hb); obtain ⟨f1, f2, f3, f4⟩ := Fr.o2 F) | (have F := fr_later F (later_undrewN hb); obtain ⟨f1, f2, f3, f4⟩ := Fr.o2 F)); clear hb))
      all_goals
        go_wp2_with fail
        refine bodyPost_ret (v := .tuple #[.agg #[.int .i64 (okV (codE (a + chL x) (b + chH x)) (a + chL x)), .int .i64 (okV (codE (a + chL x) (b + chH x)) (b + chH x))], .int .i64 (codE (a + chL x) (b + chH x))]) (by simp [results, Try.results47, go_sem, *]) rfl ⟨rfl, Later.setCell (Later.setCell (Later.trans (Held.is hW) (by (repeat (first | exact Later.refl _ | refine Later.drew ?_ | refine Later.drewN ?_ _ | refine Later.alloc ?_ _ | refine Later.trans ?_ (Hid.out (by assumption)))); done)) (by simp <;> omega) _) (by simp <;> omega) _⟩
end Go.Proofs.Ytnmlkigpiaekjaa
namespace Go.Proofs.Ytnmlkigpiaekjaa
open Go.RowKit
set_option maxHeartbeats 4000000
set_option linter.unusedVariables false
set_option linter.unusedSimpArgs false
theorem s_FloorB (a b : Int) (w : World) (h1 : -4000000000000000000 ≤ a) (h2 : a ≤ 4000000000000000000) (h3 : -1000000000000 ≤ b) (h4 : b ≤ 1000000000000) (h0 : b ≠ 0) :
    Calls Try.prog 86 #[.int .i64 a, .int .i64 b] w fun e w' => e = .returned (.int .i64 (flo a b)) ∧ w = w' := by
  have hb := tdiv_bd a b _ h1 h2
  go_enter Try.func86, Try.ntmps86
  go_wp2
  all_goals
    go_ret
    exact ⟨ret_i64 (by unfold flo; simp_all), rfl⟩
theorem flo_bdB (a b : Int) (m : Int) (h1 : -m ≤ a) (h2 : a ≤ m) : -m - 1 ≤ flo a b ∧ flo a b ≤ m := flo_bd a b m h1 h2
theorem s_CeilB (a b : Int) (w : World) (h1 : -4000000000000000000 ≤ a) (h2 : a ≤ 4000000000000000000) (h3 : -1000000000000 ≤ b) (h4 : b ≤ 1000000000000) (h0 : b ≠ 0) :
    Calls Try.prog 60 #[.int .i64 a, .int .i64 b] w fun e w' => e = .returned (.int .i64 (cei a b)) ∧ w = w' := by
  have hb := flo_bd (-a) b 4000000000000000000 (by omega) (by omega)
  rw [cei_eq a b h0]
  go_enter Try.func60, Try.ntmps60
  go_wp2_with (go_at_call 86; refine (s_FloorB _ _ _ (by omega) (by omega) (by omega) (by omega) h0).mono ?_; rintro e w' ⟨rfl, rfl⟩)
  go_ret
  exact ⟨rfl, rfl⟩
theorem s_Brake (x : Sg) (c : Bool) (h : brk x.k = c) (w : World) : Calls Try.prog 59 #[.agg #[.int .i64 x.k, .int .i64 x.l, .int .i64 x.r, .int .i64 x.a, .int .i64 x.b, .int .i64 x.c, .int .i64 x.d]] w fun e w' => e = .returned (.bool c) ∧ Later w w' := by
  subst h
  have key : ∀ p q : Bool, decide (x.k = 3) = p → decide (x.k = 4) = q → Hid (brk x.k = (p || q)) := by
    rintro p q rfl rfl; exact Lib.hid rfl
  cases h3 : decide (x.k = 3) <;> cases h4 : decide (x.k = 4)
  all_goals
    have K := key _ _ h3 h4
    clear key
    have e3 := (show (x.k == 3) = decide (x.k = 3) from rfl).trans h3
    have e4 := (show (x.k == 4) = decide (x.k = 4) from rfl).trans h4
    clear h3 h4
    go_enter Try.func59, Try.ntmps59
    go_wp2
    go_ret
    exact ⟨ret_b (by first | rfl | (rw [K.out]; rfl)), (by repeat (first | (with_reducible exact Later.refl _) | (with_reducible exact Hid.out (by assumption)) | (with_reducible refine Later.alloc ?_ _) | (with_reducible refine Later.setCell ?_ (by simp; omega) _) | (with_reducible refine Later.setCell ?_ (by simp) _) | (with_reducible refine Later.drewN ?_ _) | (with_reducible refine Later.drew ?_) | (with_reducible refine Later.trans ?_ (Hid.out (by assumption)))))⟩
theorem wk_eq (f a l r : Int) : 2 * ((f + a) * l + 9806 * r) = f * (2 * l) - (-19612 * r - a * (2 * l)) := by
  rw [Int.add_mul, ← Go.Proofs.Ytnmlkigpiaekjaa.k2 f l, ← Go.Proofs.Ytnmlkigpiaekjaa.k2 a l, Int.mul_assoc, Int.mul_assoc]
  omega
theorem s_Work (x : Sg) (w : World) (h : sgB x = true) :
    Calls Try.prog 61 #[.agg #[.int .i64 x.k, .int .i64 x.l, .int .i64 x.r, .int .i64 x.a, .int .i64 x.b, .int .i64 x.c, .int .i64 x.d]] w fun e w' => e = .returned (.agg #[.int .i64 (wkL x), .int .i64 (wkH x)]) ∧ Later w w' := by
  obtain ⟨g1, g2, g3, g4, g5, g6⟩ := fc_bd x h
  obtain ⟨b1, b2, b3⟩ := k_bd x h
  obtain ⟨t1, t2, t3⟩ := wk_bd x h
  rw [sgB_iff] at h
  obtain ⟨⟨k1, k2⟩, ⟨l1, l2⟩, ⟨r1, r2, r3, r4⟩, ⟨a1, a2, a3⟩, _⟩ := h
  have q1 : wkL x = 2 * ((x.c + x.a) * x.l + 9806 * x.r) := (wk_eq x.c x.a x.l x.r).symm
  have q2 : wkH x = 2 * ((x.d + x.b) * x.l + 9806 * x.r) := (wk_eq x.d x.b x.l x.r).symm
  rw [q1] at t1 t2
  rw [q2] at t2 t3
  rw [q1, q2]
  clear r3 r4 q1 q2 b1 b2 b3 g4 g5 g6
  generalize hA : (x.c + x.a) * x.l = A at *
  generalize hB : (x.d + x.b) * x.l = B at *
  have wA : IntKind.i64.wrap ((x.c + x.a) * x.l) = A := by rw [hA]; exact IntWalk.i64_in _ ⟨by omega, by omega⟩
  have wB : IntKind.i64.wrap ((x.d + x.b) * x.l) = B := by rw [hB]; exact IntWalk.i64_in _ ⟨by omega, by omega⟩
  clear hA hB
  have c1 : IntKind.i64.wrap (x.c + x.a) = x.c + x.a := IntWalk.i64_in _ ⟨by omega, by omega⟩
  have c2 : IntKind.i64.wrap (x.d + x.b) = x.d + x.b := IntWalk.i64_in _ ⟨by omega, by omega⟩
  have c3 : IntKind.i64.wrap (A + 9806 * x.r) = A + 9806 * x.r := IntWalk.i64_in _ ⟨by omega, by omega⟩
  have c4 : IntKind.i64.wrap (B + 9806 * x.r) = B + 9806 * x.r := IntWalk.i64_in _ ⟨by omega, by omega⟩
  have c5 : IntKind.i64.wrap (2 * (A + 9806 * x.r)) = 2 * (A + 9806 * x.r) := IntWalk.i64_in _ ⟨by omega, by omega⟩
  have c6 : IntKind.i64.wrap (2 * (B + 9806 * x.r)) = 2 * (B + 9806 * x.r) := IntWalk.i64_in _ ⟨by omega, by omega⟩
  go_enter Try.func61, Try.ntmps61
  go_wp2
  refine bodyPost_ret (v := .agg #[.int .i64 (2 * (A + 9806 * x.r)), .int .i64 (2 * (B + 9806 * x.r))]) (by simp [results, Try.results61, go_sem, *]) rfl ⟨rfl, (by repeat (first | (with_reducible exact Later.refl _) | (with_reducible exact Hid.out (by assumption)) | (with_reducible refine Later.alloc ?_ _) | (with_reducible refine Later.setCell ?_ (by simp; omega) _) | (with_reducible refine Later.setCell ?_ (by simp) _) | (with_reducible refine Later.drewN ?_ _) | (with_reducible refine Later.drew ?_) | (with_reducible refine Later.trans ?_ (Hid.out (by assumption)))))⟩
end Go.Proofs.Ytnmlkigpiaekjaa
namespace Go.Proofs.Ytnmlkigpiaekjaa
open Go.RowKit
set_option maxHeartbeats 4000000
set_option linter.unusedVariables false
set_option linter.unusedSimpArgs false
end Go.Proofs.Ytnmlkigpiaekjaa
namespace Go.Proofs.Ytnmlkigpiaekjaa
open Go.RowKit
set_option maxHeartbeats 4000000
set_option linter.unusedVariables false
set_option linter.unusedSimpArgs false
theorem s_Range (a : Option Addr) (n cap : Nat) (f c : Int) (b : Bool) (w : World) (hn : n ≤ 9223372036854775807) (h : ((decide (0 ≤ f) && decide (f ≤ (n : Int) - 1)) && (decide (0 ≤ c) && decide (c ≤ 24))) = b) :
    Calls Try.prog 39 #[.agg #[.slice a n cap], .int .i64 f, .int .i64 c] w fun e w' => e = .returned (.bool b) ∧ Later w w' := by
  subst h
  cases h1 : (decide (0 ≤ f) && decide (f ≤ (n : Int) - 1))
  all_goals
    have H1 := Lib.hid h1
    clear h1
  · go_enter Try.func39, Try.ntmps39
    go_wp2_with (go_at_call 73; refine (s_InB f 0 ((n : Int) - 1) false H1.out _).mono ?_; rintro e w' ⟨rfl, rfl⟩)
    go_ret
    exact ⟨by simp, (by repeat (first | (with_reducible exact Later.refl _) | (with_reducible exact Hid.out (by assumption)) | (with_reducible refine Later.alloc ?_ _) | (with_reducible refine Later.setCell ?_ (by simp; omega) _) | (with_reducible refine Later.setCell ?_ (by simp) _) | (with_reducible refine Later.drewN ?_ _) | (with_reducible refine Later.drew ?_) | (with_reducible refine Later.trans ?_ (Hid.out (by assumption)))))⟩
  · go_enter Try.func39, Try.ntmps39
    go_wp2_with fail
    refine (s_InB f 0 ((n : Int) - 1) true H1.out _).mono ?_
    rintro e w' ⟨rfl, rfl⟩
    go_wp2_with fail
    refine (s_In c 0 24 _).mono ?_
    rintro e w' ⟨rfl, rfl⟩
    go_wp2_with fail
    go_ret
    exact ⟨by simp, (by repeat (first | (with_reducible exact Later.refl _) | (with_reducible exact Hid.out (by assumption)) | (with_reducible refine Later.alloc ?_ _) | (with_reducible refine Later.setCell ?_ (by simp; omega) _) | (with_reducible refine Later.setCell ?_ (by simp) _) | (with_reducible refine Later.drewN ?_ _) | (with_reducible refine Later.drew ?_) | (with_reducible refine Later.trans ?_ (Hid.out (by assumption)))))⟩
theorem s_l06Segment (a : Option Addr) (n cap k : Nat) (L : List Sg) (w : World) (hs : Sgs w a n L) (hn : 0 < n) :
    Calls Try.prog 48 #[.agg #[.slice a n cap], .int .i64 (k : Int)] w fun e w' => e = .returned (.agg #[.int .i64 (sx L (k % n)).k, .int .i64 (sx L (k % n)).l, .int .i64 (sx L (k % n)).r, .int .i64 (sx L (k % n)).a, .int .i64 (sx L (k % n)).b, .int .i64 (sx L (k % n)).c, .int .i64 (sx L (k % n)).d]) ∧ Later w w' := by
  obtain ⟨r, hr⟩ : ∃ r, r = k % n := ⟨_, rfl⟩
  have hrn : r < n := by rw [hr]; exact Nat.mod_lt _ hn
  have hmod : (k : Int).tmod (n : Int) = (r : Int) := by rw [Int.tmod_eq_emod_of_nonneg (by omega), hr, Int.natCast_emod]
  rw [← hr]
  have hn0 : ¬ n = 0 := by omega
  have hnm := hs.2.1
  obtain ⟨b, off, rfl, hb, hcc⟩ := hs.at r hrn
  obtain ⟨c0, c1, c2, c3, c4, c5, c6⟩ := hcc
  generalize sx L r = x at c0 c1 c2 c3 c4 c5 c6
  clear hs hr
  go_enter Try.func48, Try.ntmps48
  go_wp2_with fail
  go_region
  all_goals
    go_wp2_with fail
    refine bodyPost_ret (v := .agg #[.int .i64 x.k, .int .i64 x.l, .int .i64 x.r, .int .i64 x.a, .int .i64 x.b, .int .i64 x.c, .int .i64 x.d]) (by simp [results, Try.results48, go_sem, *]) rfl ⟨rfl, (by repeat (first | (with_reducible exact Later.refl _) | (with_reducible exact Hid.out (by assumption)) | (with_reducible refine Later.alloc ?_ _) | (with_reducible refine Later.setCell ?_ (by simp; omega) _) | (with_reducible refine Later.setCell ?_ (by simp) _) | (with_reducible refine Later.drewN ?_ _) | (with_reducible refine Later.drew ?_) | (with_reducible refine Later.trans ?_ (Hid.out (by assumption)))))⟩
end Go.Proofs.Ytnmlkigpiaekjaa
namespace Go.Proofs.Ytnmlkigpiaekjaa
open Go.RowKit
set_option maxHeartbeats 4000000
set_option linter.unusedVariables false
set_option linter.unusedSimpArgs false
set_option maxRecDepth 100000 in
theorem s_Needed (a : Option Addr) (n cap : Nat) (L : List Sg) (f c : Nat) (w : World) (hs : Sgs w a n L) (hn : 0 < n) (hf : f ≤ 1000) (hc : c ≤ 24) (hok : okB L L.length = true) :
    Calls Try.prog 41 #[.agg #[.slice a n cap], .int .i64 (f : Int), .int .i64 (c : Int)] w fun e w' => e = .returned (.int .i64 (ndN (runS L f c) c)) ∧ Later w w' := by
  obtain ⟨R, hR⟩ : ∃ R, R = runS L f c := ⟨_, rfl⟩
  have hRl : R.length = c := by rw [hR, runS_len]
  have hokR : okB R R.length = true := by rw [hR]; exact runS_okB L f c hok (by rw [hs.1]; exact hn)
  have HAT : Hid (∀ j, j < c → sx L ((f + j) % n) = sx R j) := Lib.hid (fun j hj => by rw [hR, runS_at L f c j hj, hs.1])
  rw [← hR]
  have HS := Lib.hid hs; have HRL := Lib.hid hRl; have HOK := Lib.hid hokR
  clear hs hR hRl hokR hok
  go_enter Try.func41, Try.ntmps41
  go_wp2_with fail
  go_loopw [7, 8, 9] (fun t s i wr => ∃ j : Nat, j ≤ c ∧ i = .int .i64 ((f + j : Nat) : Int) ∧ t = .int .i64 (ndN R j) ∧ s = .int .i64 (clL R j) ∧ wr.cell? ⟨w.heap.size, 0, none⟩ = some (.slice a n cap) ∧ Later w wr) (fun _ _ i _ => (f + c) - (intOf i).toNat)
  case atStart => exact ⟨0, by omega, rfl, rfl, by rw [clL_0], by simp, (by repeat (first | (with_reducible exact Later.refl _) | (with_reducible exact Hid.out (by assumption)) | (with_reducible refine Later.alloc ?_ _) | (with_reducible refine Later.setCell ?_ (by simp; omega) _) | (with_reducible refine Later.setCell ?_ (by simp) _) | (with_reducible refine Later.drewN ?_ _) | (with_reducible refine Later.drew ?_) | (with_reducible refine Later.trans ?_ (Hid.out (by assumption)))))⟩
  case round =>
    obtain ⟨j, hj, rfl, rfl, rfl, hc1, hlw⟩ := hrel
    have HW := Lib.hid hlw
    have hz1 := sg_cell_lt hc1
    clear hlw
    by_cases hlt : j < c
    · have hseg : sgB (sx R j) = true := okB_at R R.length j (Nat.le_refl _) (by rw [HRL.out]; exact hlt) HOK.out
      obtain ⟨d1, d2, d3⟩ := cl_bd R HOK.out j (by rw [HRL.out]; exact hj)
      obtain ⟨d4, d5, d6⟩ := cl_bd R HOK.out (j + 1) (by rw [HRL.out]; exact hlt)
      obtain ⟨d7, d8⟩ := ndN_bd R HOK.out j (by rw [HRL.out]; exact hj)
      have q1 : clL R j + chL (sx R j) = clL R (j + 1) := by rw [clL_succ R j (by rw [HRL.out]; exact hlt)]
      obtain ⟨x, hx⟩ : ∃ x, x = clL R (j + 1) := ⟨_, rfl⟩
      rw [← hx] at q1 d4
      have hx0 : -300000000000 ≤ x := by omega
      have hx2 : x ≤ 300000000000 := by omega
      have HN : Hid (ndN R (j + 1) = max (ndN R j) (-x)) := Lib.hid (by rw [hx]; exact ndN_succ R j)
      have HX := Lib.hid hx
      have HWR : Hid (IntKind.i64.wrap (clL R j + chL (sx R j)) = x) := Lib.hid (by rw [q1]; exact IntWalk.i64_in _ ⟨by omega, by omega⟩)
      have hfd : ∀ w : World, (Instr.field 28 (.agg #[.int .i64 (chL (sx R j)), .int .i64 (chH (sx R j))]) 0).run Try.prog w = .ok (.int .i64 (chL (sx R j))) w := fun _ => by kernel_rfl
      clear d1 d2 d3 d4 d5 d6 d8 hx
      go_wp2_with fail
      refine (s_l06Segment a n cap (f + j) L _ (HS.out.later (by repeat (first | (with_reducible exact Later.refl _) | (with_reducible exact Hid.out (by assumption)) | (with_reducible refine Later.alloc ?_ _) | (with_reducible refine Later.setCell ?_ (by simp; omega) _) | (with_reducible refine Later.setCell ?_ (by simp) _) | (with_reducible refine Later.drewN ?_ _) | (with_reducible refine Later.drew ?_) | (with_reducible refine Later.trans ?_ (Hid.out (by assumption)))))) hn).mono ?_
      rw [HAT.out j hlt]
      rintro e w2 ⟨rfl, hb2⟩
      have W2 : Hid (Later w w2) := Lib.hid (Later.trans (by repeat (first | (with_reducible exact Later.refl _) | (with_reducible exact Hid.out (by assumption)) | (with_reducible refine Later.alloc ?_ _) | (with_reducible refine Later.setCell ?_ (by simp; omega) _) | (with_reducible refine Later.setCell ?_ (by simp) _) | (with_reducible refine Later.drewN ?_ _) | (with_reducible refine Later.drew ?_) | (with_reducible refine Later.trans ?_ (Hid.out (by assumption))))) hb2)
      have hc2 : w2.cell? ⟨w.heap.size, 0, none⟩ = some (.slice a n cap) := (hb2.cell (p := ⟨w.heap.size, 0, none⟩) hz1).trans hc1
      clear hb2
      go_wp2_with fail
      refine (s_Change (sx R j) _ hseg).mono ?_
      rintro e w3 ⟨rfl, hb3⟩
      have W3 : Hid (Later w w3) := Lib.hid (Later.trans (by repeat (first | (with_reducible exact Later.refl _) | (with_reducible exact Hid.out (by assumption)) | (with_reducible refine Later.alloc ?_ _) | (with_reducible refine Later.setCell ?_ (by simp; omega) _) | (with_reducible refine Later.setCell ?_ (by simp) _) | (with_reducible refine Later.drewN ?_ _) | (with_reducible refine Later.drew ?_) | (with_reducible refine Later.trans ?_ (Hid.out (by assumption))))) hb3)
      have hz2 := sg_cell_lt hc2
      have hc3 : w3.cell? ⟨w.heap.size, 0, none⟩ = some (.slice a n cap) := (hb3.cell (p := ⟨w.heap.size, 0, none⟩) hz2).trans hc2
      clear hb3 hc2 hc1
      have hwr := HWR.out
      go_wp2_with fail
      go_roundw
      case rel =>
        refine ⟨j + 1, by omega, by go_num, ?_, by rw [HX.out], hc3, W3.out⟩
        rw [HN.out]
        congr 1
        split <;> omega
      case measure => simp [intOf]; omega
    · obtain rfl : j = c := by omega
      go_wp2_with fail
      go_ret
      exact ⟨rfl, HW.out⟩
theorem s_EnergyNeeded (s : Option Addr) (n cap : Nat) (L : List Sg) (f c : Int) (w : World) (hs : Sgs w s n L) :
    Calls Try.prog 18 #[.agg #[.slice s n cap], .int .i64 f, .int .i64 c] w fun e w' => e = .returned (.tuple #[.int .i64 (enV L f c), .int .i64 (enE L f c)]) ∧ Later w w' := by
  have HS := Lib.hid hs
  have HL := Lib.hid hs.1
  have hnm := hs.2.1
  clear hs
  cases hv : layB L
  · have E0 : sgE L f c = 1 := by unfold sgE; rw [hv]; rfl
    have E1 : Hid (enE L f c = 1) := Lib.hid (by unfold enE; rw [E0]; rfl)
    have E2 : Hid (enV L f c = 0) := Lib.hid (by unfold enV; rw [E1.out]; rfl)
    clear E0
    go_enter Try.func18, Try.ntmps18
    go_wp2_with fail
    refine (s_IsLayout s n cap L _ (HS.out.later (by repeat (first | (with_reducible exact Later.refl _) | (with_reducible exact Hid.out (by assumption)) | (with_reducible refine Later.alloc ?_ _) | (with_reducible refine Later.setCell ?_ (by simp; omega) _) | (with_reducible refine Later.setCell ?_ (by simp) _) | (with_reducible refine Later.drewN ?_ _) | (with_reducible refine Later.drew ?_) | (with_reducible refine Later.trans ?_ (Hid.out (by assumption))))))).mono ?_
    rw [hv]
    rintro e w1 ⟨rfl, hb⟩
    have H1 := Lib.hid hb
    clear hb
    go_wp2_with fail
    go_ret2
    exact ⟨ret_2i E2.out.symm E1.out.symm, (by repeat (first | (with_reducible exact Later.refl _) | (with_reducible exact Hid.out (by assumption)) | (with_reducible refine Later.alloc ?_ _) | (with_reducible refine Later.setCell ?_ (by simp; omega) _) | (with_reducible refine Later.setCell ?_ (by simp) _) | (with_reducible refine Later.drewN ?_ _) | (with_reducible refine Later.drew ?_) | (with_reducible refine Later.trans ?_ (Hid.out (by assumption)))))⟩
  · by_cases hr : 0 ≤ f ∧ f < (n : Int) ∧ 0 ≤ c ∧ c ≤ 24
    · obtain ⟨f', rfl⟩ : ∃ f' : Nat, f = (f' : Int) := ⟨f.toNat, by omega⟩
      obtain ⟨c', rfl⟩ : ∃ c' : Nat, c = (c' : Int) := ⟨c.toNat, by omega⟩
      have E0 : sgE L (f' : Int) (c' : Int) = 0 := by unfold sgE; rw [hv, if_pos rfl, HL.out, if_pos hr]
      have HFE : Hid (enE L (f' : Int) (c' : Int) = if ndN (runS L f' c') c' ≤ 10000000000 then 0 else 3) := Lib.hid (by unfold enE; rw [if_pos E0]; simp)
      have HFV : Hid (enV L (f' : Int) (c' : Int) = if ndN (runS L f' c') c' ≤ 10000000000 then ndN (runS L f' c') c' else 0) := Lib.hid (by unfold enV; rw [HFE.out]; simp)
      have hv' := (layB_iff L).1 hv
      have h24 : n ≤ 24 := by have := HL.out; omega
      have hn0 : 0 < n := by have := HL.out; omega
      have HOK := Lib.hid hv'.2.2.1
      have HB : Hid (((decide (0 ≤ (f' : Int)) && decide ((f' : Int) ≤ (n : Int) - 1)) && (decide (0 ≤ (c' : Int)) && decide ((c' : Int) ≤ 24))) = true) := Lib.hid (by simp; omega)
      have hf2 : f' ≤ 1000 := by omega
      have hc2 : c' ≤ 24 := by omega
      clear E0 hv' hr
      go_enter Try.func18, Try.ntmps18
      go_wp2_with fail
      refine (s_IsLayout s n cap L _ (HS.out.later (by repeat (first | (with_reducible exact Later.refl _) | (with_reducible exact Hid.out (by assumption)) | (with_reducible refine Later.alloc ?_ _) | (with_reducible refine Later.setCell ?_ (by simp; omega) _) | (with_reducible refine Later.setCell ?_ (by simp) _) | (with_reducible refine Later.drewN ?_ _) | (with_reducible refine Later.drew ?_) | (with_reducible refine Later.trans ?_ (Hid.out (by assumption))))))).mono ?_
      rw [hv]
      rintro e w1 ⟨rfl, hb⟩
      have H1 : Hid (Later w w1) := Lib.hid (Later.trans (by repeat (first | (with_reducible exact Later.refl _) | (with_reducible exact Hid.out (by assumption)) | (with_reducible refine Later.alloc ?_ _) | (with_reducible refine Later.setCell ?_ (by simp; omega) _) | (with_reducible refine Later.setCell ?_ (by simp) _) | (with_reducible refine Later.drewN ?_ _) | (with_reducible refine Later.drew ?_) | (with_reducible refine Later.trans ?_ (Hid.out (by assumption))))) hb)
      have hc1 : w1.cell? ⟨w.heap.size, 0, none⟩ = some (.slice s n cap) := by rw [hb.cell (p := ⟨w.heap.size, 0, none⟩) (by simp)]; simp
      have hz1 := sg_cell_lt hc1
      clear hb
      go_wp2_with fail
      refine (s_Range s n cap f' c' true _ hnm HB.out).mono ?_
      rintro e w2 ⟨rfl, hb⟩
      have H2 : Hid (Later w w2) := Lib.hid (Later.trans (by repeat (first | (with_reducible exact Later.refl _) | (with_reducible exact Hid.out (by assumption)) | (with_reducible refine Later.alloc ?_ _) | (with_reducible refine Later.setCell ?_ (by simp; omega) _) | (with_reducible refine Later.setCell ?_ (by simp) _) | (with_reducible refine Later.drewN ?_ _) | (with_reducible refine Later.drew ?_) | (with_reducible refine Later.trans ?_ (Hid.out (by assumption))))) hb)
      have hc3 : w2.cell? ⟨w.heap.size, 0, none⟩ = some (.slice s n cap) := (hb.cell (p := ⟨w.heap.size, 0, none⟩) hz1).trans hc1
      clear hb
      go_wp2_with fail
      refine (s_Needed s n cap L f' c' _ (HS.out.later (by repeat (first | (with_reducible exact Later.refl _) | (with_reducible exact Hid.out (by assumption)) | (with_reducible refine Later.alloc ?_ _) | (with_reducible refine Later.setCell ?_ (by simp; omega) _) | (with_reducible refine Later.setCell ?_ (by simp) _) | (with_reducible refine Later.drewN ?_ _) | (with_reducible refine Later.drew ?_) | (with_reducible refine Later.trans ?_ (Hid.out (by assumption)))))) hn0 hf2 hc2 HOK.out).mono ?_
      obtain ⟨N, hN⟩ : ∃ N, N = ndN (runS L f' c') c' := ⟨_, rfl⟩
      rw [← hN]
      rw [← hN] at HFE HFV
      clear hN
      rintro e w4 ⟨rfl, hb⟩
      have H4 : Hid (Later w w4) := Lib.hid (Later.trans (by repeat (first | (with_reducible exact Later.refl _) | (with_reducible exact Hid.out (by assumption)) | (with_reducible refine Later.alloc ?_ _) | (with_reducible refine Later.setCell ?_ (by simp; omega) _) | (with_reducible refine Later.setCell ?_ (by simp) _) | (with_reducible refine Later.drewN ?_ _) | (with_reducible refine Later.drew ?_) | (with_reducible refine Later.trans ?_ (Hid.out (by assumption))))) hb)
      clear hb
      by_cases hbig : N ≤ 10000000000
      · have E1 : Hid (enE L (f' : Int) (c' : Int) = 0) := Lib.hid (by rw [HFE.out, if_pos hbig])
        have E2 : Hid (enV L (f' : Int) (c' : Int) = N) := Lib.hid (by rw [HFV.out, if_pos hbig])
        go_wp2_with fail
        go_ret2
        exact ⟨ret_2i E2.out.symm E1.out.symm, H4.out⟩
      · have E1 : Hid (enE L (f' : Int) (c' : Int) = 3) := Lib.hid (by rw [HFE.out, if_neg hbig])
        have E2 : Hid (enV L (f' : Int) (c' : Int) = 0) := Lib.hid (by rw [HFV.out, if_neg hbig])
        go_wp2_with fail
        go_ret2
        exact ⟨ret_2i E2.out.symm E1.out.symm, H4.out⟩
    · have E0 : sgE L f c = 2 := by unfold sgE; rw [hv, if_pos rfl, HL.out, if_neg hr]
      have E1 : Hid (enE L f c = 2) := Lib.hid (by unfold enE; rw [E0]; rfl)
      have E2 : Hid (enV L f c = 0) := Lib.hid (by unfold enV; rw [E1.out]; rfl)
      have HB : Hid (((decide (0 ≤ f) && decide (f ≤ (n : Int) - 1)) && (decide (0 ≤ c) && decide (c ≤ 24))) = false) := Lib.hid (by rw [Bool.eq_false_iff]; simp; omega)
      clear E0 hr
      go_enter Try.func18, Try.ntmps18
      go_wp2_with fail
      refine (s_IsLayout s n cap L _ (HS.out.later (by repeat (first | (with_reducible exact Later.refl _) | (with_reducible exact Hid.out (by assumption)) | (with_reducible refine Later.alloc ?_ _) | (with_reducible refine Later.setCell ?_ (by simp; omega) _) | (with_reducible refine Later.setCell ?_ (by simp) _) | (with_reducible refine Later.drewN ?_ _) | (with_reducible refine Later.drew ?_) | (with_reducible refine Later.trans ?_ (Hid.out (by assumption))))))).mono ?_
      rw [hv]
      rintro e w1 ⟨rfl, hb⟩
      have H1 : Hid (Later w w1) := Lib.hid (Later.trans (by repeat (first | (with_reducible exact Later.refl _) | (with_reducible exact Hid.out (by assumption)) | (with_reducible refine Later.alloc ?_ _) | (with_reducible refine Later.setCell ?_ (by simp; omega) _) | (with_reducible refine Later.setCell ?_ (by simp) _) | (with_reducible refine Later.drewN ?_ _) | (with_reducible refine Later.drew ?_) | (with_reducible refine Later.trans ?_ (Hid.out (by assumption))))) hb)
      have hc1 : w1.cell? ⟨w.heap.size, 0, none⟩ = some (.slice s n cap) := by rw [hb.cell (p := ⟨w.heap.size, 0, none⟩) (by simp)]; simp
      clear hb
      go_wp2_with fail
      refine (s_Range s n cap f c false _ hnm HB.out).mono ?_
      rintro e w2 ⟨rfl, hb⟩
      have H2 := Lib.hid hb
      clear hb
      go_wp2_with fail
      go_ret2
      exact ⟨ret_2i E2.out.symm E1.out.symm, (by repeat (first | (with_reducible exact Later.refl _) | (with_reducible exact Hid.out (by assumption)) | (with_reducible refine Later.alloc ?_ _) | (with_reducible refine Later.setCell ?_ (by simp; omega) _) | (with_reducible refine Later.setCell ?_ (by simp) _) | (with_reducible refine Later.drewN ?_ _) | (with_reducible refine Later.drew ?_) | (with_reducible refine Later.trans ?_ (Hid.out (by assumption)))))⟩
end Go.Proofs.Ytnmlkigpiaekjaa
namespace Go.Proofs.Ytnmlkigpiaekjaa
open Go.RowKit
set_option maxHeartbeats 4000000
set_option linter.unusedVariables false
set_option linter.unusedSimpArgs false
/-- what the model tells of a block -/
def enLo (L : List Sg) (F : List Int) (b : Nat) : Int := if slowB L F b = true then loK L F b else 0
def enHi (L : List Sg) (F : List Int) (b : Nat) : Int := if slowB L F b = true then hiK L F b else -1
set_option maxRecDepth 100000 in
theorem s_Entry (a : Option Addr) (n cap : Nat) (L : List Sg) (A : Option Addr) (m capF : Nat) (F : List Int) (b : Nat) (w : World) (hs : Sgs w a n L) (hf : Sl w A m F) (hv : layB L = true) (hk : bkC L F = true) (hb : b < m) :
    Calls Try.prog 85 #[.agg #[.slice a n cap], .slice A m capF, .int .i64 b] w fun e w' => e = .returned (.tuple #[.int .i64 (enLo L F b), .int .i64 (enHi L F b)]) ∧ Later w w' := by
  obtain ⟨f, h, c, y, R, hB⟩ := bl_of hv hk (by rw [hf.1]; exact hb) hs.1
  have HS := Lib.hid hs; have HF := Lib.hid hf; have HB := Lib.hid hB
  have hfh := hB.le; have hhn := hB.lt; have h24 := hB.n24
  have hch : c = h - f := hB.ce
  have HEND := fun w (h1 : Sgs w a n L) (h2 : Sl w A m F) => s_l04End a n cap L A m capF F b w h1 h2 hk hb
  rw [hB.end', show ((h + 1 : Nat) : Int) = (h : Int) + 1 by omega] at HEND
  have HND := fun w (h1 : Sgs w a n L) => s_Needed a n cap L f c w h1 (by omega) (by omega) (by omega) hB.ok
  have eR : runS L f c = R := by rw [hB.Re, hB.fe, hB.cn]; rfl
  rw [eR] at HND
  have hlo : loK L F b = ndN R c := by unfold loK; rw [← hB.Re, ← hB.cn]
  have hcc0 : ((c : Nat) : Int) = (h : Int) - f := by omega
  rw [hcc0] at HND
  have HHI : Hid (enHi L F b = if slowB L F b = true then hiK L F b else -1) := Lib.hid rfl
  have HLO : Hid (enLo L F b = if slowB L F b = true then ndN R c else 0) := Lib.hid (by unfold enLo; rw [hlo])
  obtain ⟨bF, oF, rfl, ck⟩ := hf.at b hb
  have g1 := (blk_bd hk b (by rw [hf.1]; exact hb)).1
  rw [g1, ← hB.fe] at ck
  have hbF := cell_lt ck
  obtain ⟨b0, o0, rfl, hb0, _⟩ := hs.at 0 (by omega)
  clear hs hf hB hlo eR g1 hv hk
  generalize ndN R c = lo at *
  go_enter Try.func85, Try.ntmps85
  go_upto_region 1 with (fail)
  refine into (Held [(w.heap.size, 0, .slice (some ⟨b0, o0, none⟩) n cap), (bF, oF + b, .int .i64 f)] w) (by exact held_box (held_more (held_start w) bF (oF + b) _ ck hbF) w.heap.size [.slice (some ⟨b0, o0, none⟩) n cap] _ rfl) ?_
  intro W hW
  obtain ⟨p0, p1, _⟩ := Held.s2 hW
  have z0 := hW.lt w.heap.size 0 (.slice (some ⟨b0, o0, none⟩) n cap) (by simp)
  have z1 := hW.lt bF (oF + b) (.int .i64 f) (by simp)
  have HW := Lib.hid hW.is
  clear hW ck
  have hw1 : IntKind.i64.wrap ((h : Int) + 1 - 1) = (h : Int) := by rw [show (h : Int) + 1 - 1 = h by omega]; exact IntWalk.i64_in _ ⟨by omega, by omega⟩
  have hw2 : IntKind.i64.wrap (h : Int) = (h : Int) := IntWalk.i64_in _ ⟨by omega, by omega⟩
  have hw0 : ((h : Int) + 1 - 1) = (h : Int) := by omega
  go_cut [8, 9] (fun u v W => u = .int .i64 f ∧ v = .int .i64 h ∧ Held [(w.heap.size, 0, .slice (some ⟨b0, o0, none⟩) n cap)] w W)
  case first =>
    go_region_with (go_at_call 56; refine (HEND _ (HS.out.later (by repeat (first | (with_reducible exact Later.refl _) | (with_reducible exact Hid.out (by assumption)) | (with_reducible refine Later.alloc ?_ _) | (with_reducible refine Later.setCell ?_ (by simp; omega) _) | (with_reducible refine Later.setCell ?_ (by simp) _) | (with_reducible refine Later.drewN ?_ _) | (with_reducible refine Later.drew ?_) | (with_reducible refine Later.trans ?_ (Hid.out (by assumption)))))) (HF.out.later (by repeat (first | (with_reducible exact Later.refl _) | (with_reducible exact Hid.out (by assumption)) | (with_reducible refine Later.alloc ?_ _) | (with_reducible refine Later.setCell ?_ (by simp; omega) _) | (with_reducible refine Later.setCell ?_ (by simp) _) | (with_reducible refine Later.drewN ?_ _) | (with_reducible refine Later.drew ?_) | (with_reducible refine Later.trans ?_ (Hid.out (by assumption))))))).mono ?_; rintro e w1 ⟨rfl, hb⟩; obtain ⟨H, hcc, hff, hzz⟩ := later_facts hb; clear hb; (try simp only [World.heap_drewN, World.cell?_drewN, World.frozen?_drewN, World.size_drew, World.cell?_drew] at hcc hff hzz))
    all_goals
      go_wp2_with fail
      go_meet
      exact ⟨rfl, by first | rfl | rw [hw2], ⟨fun x hx => by simp at hx; subst hx; exact ⟨by show w.heap.size < w1.heap.size; omega, by show w1.cell? ⟨w.heap.size, 0, none⟩ = _; rw [hcc _ _ z0]; exact p0⟩, HW.out.trans (later_undrew H.out)⟩⟩
  case rest =>
    obtain ⟨rfl, rfl, hW⟩ := hcut
    clear p0 p1 z0 z1 HW
    obtain ⟨p0, _⟩ := Held.s1 hW
    have z0 := hW.lt w.heap.size 0 (.slice (some ⟨b0, o0, none⟩) n cap) (by simp)
    have HW := Lib.hid hW.is
    clear hW
    go_wp2_with (first | (go_at_call 41; refine (HND _ (HS.out.later (by repeat (first | (with_reducible exact Later.refl _) | (with_reducible exact Hid.out (by assumption)) | (with_reducible refine Later.alloc ?_ _) | (with_reducible refine Later.setCell ?_ (by simp; omega) _) | (with_reducible refine Later.setCell ?_ (by simp) _) | (with_reducible refine Later.drewN ?_ _) | (with_reducible refine Later.drew ?_) | (with_reducible refine Later.trans ?_ (Hid.out (by assumption))))))).mono ?_; rintro e w2 ⟨rfl, hb⟩; have H2 : Hid (Later w w2) := Lib.hid (Later.trans (by repeat (first | (with_reducible exact Later.refl _) | (with_reducible exact Hid.out (by assumption)) | (with_reducible refine Later.alloc ?_ _) | (with_reducible refine Later.setCell ?_ (by simp; omega) _) | (with_reducible refine Later.setCell ?_ (by simp) _) | (with_reducible refine Later.drewN ?_ _) | (with_reducible refine Later.drew ?_) | (with_reducible refine Later.trans ?_ (Hid.out (by assumption))))) hb); have c2 := (hb.cell (p := ⟨w.heap.size, 0, none⟩) z0).trans p0; clear hb))
    clear hw0 hw1 hw2 p0 z0 HW
    go_loopw [11, 12, 13] (fun hi sm i wr => ∃ j : Nat, j ≤ c ∧ i = .int .i64 ((f + j : Nat) : Int) ∧ hi = .int .i64 (hgK R j) ∧ sm = .int .i64 (clH R j) ∧ wr.cell? ⟨w.heap.size, 0, none⟩ = some (.slice (some ⟨b0, o0, none⟩) n cap) ∧ Later w wr) (fun _ _ i _ => h - (intOf i).toNat)
    case atStart => exact ⟨0, by omega, rfl, rfl, by rw [clH_0], c2, H2.out⟩
    case round =>
      obtain ⟨j, hj, rfl, rfl, rfl, hc1, hlw⟩ := hrel
      have HW := Lib.hid hlw
      have hz1 := sg_cell_lt hc1
      clear c2 H2
      by_cases hlt : j < c
      · have hseg : sgB (sx R j) = true := okB_at R R.length j (Nat.le_refl _) (by rw [HB.out.Rl]; exact hlt) HB.out.Rok
        obtain ⟨d1, d2, d3⟩ := cl_bd R HB.out.Rok j (by rw [HB.out.Rl]; exact hj)
        obtain ⟨d4, d5, d6⟩ := cl_bd R HB.out.Rok (j + 1) (by rw [HB.out.Rl]; exact hlt)
        have d9 := hgK_ge R HB.out.Rok j (by rw [HB.out.Rl]; exact hj)
        have d10 := hgK_le R j
        obtain ⟨Y, hY⟩ : ∃ Y, Y = clH R (j + 1) := ⟨_, rfl⟩
        have q2 : clH R j + chH (sx R j) = Y := by rw [hY, clH_succ R j (by rw [HB.out.Rl]; exact hlt)]
        have HY := Lib.hid hY
        rw [← hY] at d5 d6
        have HG : Hid (hgK R (j + 1) = min (hgK R j) (10000000000 - Y)) := Lib.hid (by rw [hY]; exact hgK_succ R j)
        have HWR : IntKind.i64.wrap (clH R j + chH (sx R j)) = Y := by rw [q2]; exact IntWalk.i64_in _ ⟨by omega, by omega⟩
        have HWR2 : IntKind.i64.wrap (10000000000 - Y) = 10000000000 - Y := IntWalk.i64_in _ ⟨by omega, by omega⟩
        have hfd : ∀ w : World, (Instr.field 28 (.agg #[.int .i64 (chL (sx R j)), .int .i64 (chH (sx R j))]) 1).run Try.prog w = .ok (.int .i64 (chH (sx R j))) w := fun _ => by kernel_rfl
        have HCH := fun w => s_Change (sx R j) w hseg
        obtain ⟨b', o', hbb, hb', hc7⟩ := (HS.out.later hlw).at (f + j) (by omega)
        simp only [Option.some.injEq, Addr.mk.injEq, and_true] at hbb
        obtain ⟨rfl, rfl⟩ := hbb
        obtain ⟨c0, c1, c2, c3, c4, c5, c6⟩ := hc7
        rw [← HB.out.Rat j hlt] at c0 c1 c2 c3 c4 c5 c6
        have hfj : f + j < h := by omega
        have hfn : f + j < n := by omega
        clear d1 d2 d3 d4 d5 d6 d9 d10 hY q2 hlw
        go_wp2_with (go_at_call 58; refine (HCH _).mono ?_; rintro e w3 ⟨rfl, hb⟩; have H3 : Hid (Later w w3) := Lib.hid (HW.out.trans (Later.trans (by repeat (first | (with_reducible exact Later.refl _) | (with_reducible exact Hid.out (by assumption)) | (with_reducible refine Later.alloc ?_ _) | (with_reducible refine Later.setCell ?_ (by simp; omega) _) | (with_reducible refine Later.setCell ?_ (by simp) _) | (with_reducible refine Later.drewN ?_ _) | (with_reducible refine Later.drew ?_) | (with_reducible refine Later.trans ?_ (Hid.out (by assumption))))) hb)); have c3' := (hb.cell (p := ⟨w.heap.size, 0, none⟩) hz1).trans hc1; clear hb)
        all_goals
          go_roundw
          case rel =>
            refine ⟨j + 1, by omega, by go_num, ?_, by rw [HY.out], c3', H3.out⟩
            rw [HG.out]
            congr 1
            first | omega | (split <;> omega)
          case measure => simp [intOf]; omega
      · obtain rfl : c = j := by omega
        obtain ⟨b', o', hbb, hb', hc7⟩ := (HS.out.later hlw).at h hhn
        simp only [Option.some.injEq, Addr.mk.injEq, and_true] at hbb
        obtain ⟨rfl, rfl⟩ := hbb
        obtain ⟨c0, c1, c2, c3, c4, c5, c6⟩ := hc7
        rw [show sx L h = y by rw [HB.out.ye, HB.out.he]; rfl] at c0 c1 c2 c3 c4 c5 c6
        have hnf : ¬ ((f + c : Nat) : Int) < (h : Int) := by omega
        have hw := wk_bd y HB.out.ysg
        have eR : rnK L F b = R := HB.out.Re.symm
        have eC : cnK L F b = c := HB.out.cn.symm
        have eY : hoS L F b = y := HB.out.ye.symm
        have eS : slowB L F b = (!brk y.k || decide (1 ≤ wkL y)) := by unfold slowB; rw [eY]
        have eH : hiK L F b = if brk y.k = true then min (hgK R c) (wkL y - clH R c) else hgK R c := by unfold hiK; rw [eY, eR, eC]
        obtain ⟨d1, d2, d3⟩ := cl_bd R HB.out.Rok c (by rw [HB.out.Rl]; exact hj)
        have dc : c ≤ 24 := by omega
        have hnc : ¬ f + c < h := by omega
        clear hlw hch hcc0 HEND HND
        cases hbk : brk y.k
        · have E1 : Hid (enHi L F b = hgK R c) := Lib.hid (by rw [HHI.out, eS, eH, hbk]; simp)
          have E2 : Hid (enLo L F b = lo) := Lib.hid (by rw [HLO.out, eS, hbk]; simp)
          clear eS eH eY eR eC hw d1 d2 d3
          go_wp2_with (first | (go_at_call 59; refine (s_Brake y _ hbk _).mono ?_; rintro e w3 ⟨rfl, hb⟩; have HW := Lib.hid (HW.out.trans (Later.trans (by repeat (first | (with_reducible exact Later.refl _) | (with_reducible exact Hid.out (by assumption)) | (with_reducible refine Later.alloc ?_ _) | (with_reducible refine Later.setCell ?_ (by simp; omega) _) | (with_reducible refine Later.setCell ?_ (by simp) _) | (with_reducible refine Later.drewN ?_ _) | (with_reducible refine Later.drew ?_) | (with_reducible refine Later.trans ?_ (Hid.out (by assumption))))) hb)); obtain ⟨H, hcc, hff, hzz⟩ := later_facts hb; clear hb; (try simp only [World.heap_drewN, World.cell?_drewN, World.frozen?_drewN] at hcc hff hzz); (try (have hz3 : w.heap.size < w3.heap.size := (by omega))); (try (have hz4 : b0 < w3.heap.size := (by omega)))) | (go_at_call 61; refine (s_Work y _ HB.out.ysg).mono ?_; rintro e w4 ⟨rfl, hb⟩; have HW := Lib.hid (HW.out.trans (Later.trans (by repeat (first | (with_reducible exact Later.refl _) | (with_reducible exact Hid.out (by assumption)) | (with_reducible refine Later.alloc ?_ _) | (with_reducible refine Later.setCell ?_ (by simp; omega) _) | (with_reducible refine Later.setCell ?_ (by simp) _) | (with_reducible refine Later.drewN ?_ _) | (with_reducible refine Later.drew ?_) | (with_reducible refine Later.trans ?_ (Hid.out (by assumption))))) hb)); clear hb))
          go_ret2
          exact ⟨ret_2i E2.out.symm E1.out.symm, (by repeat (first | (with_reducible exact Later.refl _) | (with_reducible exact Hid.out (by assumption)) | (with_reducible refine Later.alloc ?_ _) | (with_reducible refine Later.setCell ?_ (by simp; omega) _) | (with_reducible refine Later.setCell ?_ (by simp) _) | (with_reducible refine Later.drewN ?_ _) | (with_reducible refine Later.drew ?_) | (with_reducible refine Later.trans ?_ (Hid.out (by assumption)))))⟩
        · by_cases hp : 1 ≤ wkL y
          · have E1 : Hid (enHi L F b = min (hgK R c) (wkL y - clH R c)) := Lib.hid (by rw [HHI.out, eS, eH, hbk]; simp [hp])
            have E2 : Hid (enLo L F b = lo) := Lib.hid (by rw [HLO.out, eS, hbk]; simp [hp])
            have hfd : ∀ w : World, (Instr.field 28 (.agg #[.int .i64 (wkL y), .int .i64 (wkH y)]) 0).run Try.prog w = .ok (.int .i64 (wkL y)) w := fun _ => by kernel_rfl
            have hwr : IntKind.i64.wrap (wkL y - clH R c) = wkL y - clH R c := IntWalk.i64_in _ ⟨by omega, by omega⟩
            have hp2 : ¬ wkL y < 1 := by omega
            clear eS eH eY eR eC hw d1 d2 d3
            go_wp2_with (first | (go_at_call 59; refine (s_Brake y _ hbk _).mono ?_; rintro e w3 ⟨rfl, hb⟩; have HW := Lib.hid (HW.out.trans (Later.trans (by repeat (first | (with_reducible exact Later.refl _) | (with_reducible exact Hid.out (by assumption)) | (with_reducible refine Later.alloc ?_ _) | (with_reducible refine Later.setCell ?_ (by simp; omega) _) | (with_reducible refine Later.setCell ?_ (by simp) _) | (with_reducible refine Later.drewN ?_ _) | (with_reducible refine Later.drew ?_) | (with_reducible refine Later.trans ?_ (Hid.out (by assumption))))) hb)); obtain ⟨H, hcc, hff, hzz⟩ := later_facts hb; clear hb; (try simp only [World.heap_drewN, World.cell?_drewN, World.frozen?_drewN] at hcc hff hzz); (try (have hz3 : w.heap.size < w3.heap.size := (by omega))); (try (have hz4 : b0 < w3.heap.size := (by omega)))) | (go_at_call 61; refine (s_Work y _ HB.out.ysg).mono ?_; rintro e w4 ⟨rfl, hb⟩; have HW := Lib.hid (HW.out.trans (Later.trans (by repeat (first | (with_reducible exact Later.refl _) | (with_reducible exact Hid.out (by assumption)) | (with_reducible refine Later.alloc ?_ _) | (with_reducible refine Later.setCell ?_ (by simp; omega) _) | (with_reducible refine Later.setCell ?_ (by simp) _) | (with_reducible refine Later.drewN ?_ _) | (with_reducible refine Later.drew ?_) | (with_reducible refine Later.trans ?_ (Hid.out (by assumption))))) hb)); clear hb))
            all_goals
              go_ret2
              exact ⟨ret_2i E2.out.symm (by rw [E1.out]; first | rfl | omega), (by repeat (first | (with_reducible exact Later.refl _) | (with_reducible exact Hid.out (by assumption)) | (with_reducible refine Later.alloc ?_ _) | (with_reducible refine Later.setCell ?_ (by simp; omega) _) | (with_reducible refine Later.setCell ?_ (by simp) _) | (with_reducible refine Later.drewN ?_ _) | (with_reducible refine Later.drew ?_) | (with_reducible refine Later.trans ?_ (Hid.out (by assumption)))))⟩
          · have E1 : Hid (enHi L F b = -1) := Lib.hid (by rw [HHI.out, eS, hbk]; simp [hp])
            have E2 : Hid (enLo L F b = 0) := Lib.hid (by rw [HLO.out, eS, hbk]; simp [hp])
            have hfd : ∀ w : World, (Instr.field 28 (.agg #[.int .i64 (wkL y), .int .i64 (wkH y)]) 0).run Try.prog w = .ok (.int .i64 (wkL y)) w := fun _ => by kernel_rfl
            have hp2 : wkL y < 1 := by omega
            clear eS eH eY eR eC hw d1 d2 d3
            go_wp2_with (first | (go_at_call 59; refine (s_Brake y _ hbk _).mono ?_; rintro e w3 ⟨rfl, hb⟩; have HW := Lib.hid (HW.out.trans (Later.trans (by repeat (first | (with_reducible exact Later.refl _) | (with_reducible exact Hid.out (by assumption)) | (with_reducible refine Later.alloc ?_ _) | (with_reducible refine Later.setCell ?_ (by simp; omega) _) | (with_reducible refine Later.setCell ?_ (by simp) _) | (with_reducible refine Later.drewN ?_ _) | (with_reducible refine Later.drew ?_) | (with_reducible refine Later.trans ?_ (Hid.out (by assumption))))) hb)); obtain ⟨H, hcc, hff, hzz⟩ := later_facts hb; clear hb; (try simp only [World.heap_drewN, World.cell?_drewN, World.frozen?_drewN] at hcc hff hzz); (try (have hz3 : w.heap.size < w3.heap.size := (by omega))); (try (have hz4 : b0 < w3.heap.size := (by omega)))) | (go_at_call 61; refine (s_Work y _ HB.out.ysg).mono ?_; rintro e w4 ⟨rfl, hb⟩; have HW := Lib.hid (HW.out.trans (Later.trans (by repeat (first | (with_reducible exact Later.refl _) | (with_reducible exact Hid.out (by assumption)) | (with_reducible refine Later.alloc ?_ _) | (with_reducible refine Later.setCell ?_ (by simp; omega) _) | (with_reducible refine Later.setCell ?_ (by simp) _) | (with_reducible refine Later.drewN ?_ _) | (with_reducible refine Later.drew ?_) | (with_reducible refine Later.trans ?_ (Hid.out (by assumption))))) hb)); clear hb))
            go_ret2
            exact ⟨ret_2i E2.out.symm E1.out.symm, (by repeat (first | (with_reducible exact Later.refl _) | (with_reducible exact Hid.out (by assumption)) | (with_reducible refine Later.alloc ?_ _) | (with_reducible refine Later.setCell ?_ (by simp; omega) _) | (with_reducible refine Later.setCell ?_ (by simp) _) | (with_reducible refine Later.drewN ?_ _) | (with_reducible refine Later.drew ?_) | (with_reducible refine Later.trans ?_ (Hid.out (by assumption)))))⟩
end Go.Proofs.Ytnmlkigpiaekjaa
namespace Go.Proofs.Ytnmlkigpiaekjaa
open Go.RowKit
set_option maxHeartbeats 4000000
set_option linter.unusedVariables false
set_option linter.unusedSimpArgs false
theorem en_le {L : List Sg} {F : List Int} {b n : Nat} (hv : layB L = true) (hk : bkC L F = true) (hb : b < F.length) : okK L F b = decide (enLo L F b ≤ enHi L F b) := by
  have h := lo_hi_bd (n := n) hv hk hb
  unfold okK enLo enHi
  cases slowB L F b <;> simp
theorem en_in {L : List Sg} {F : List Int} {b n : Nat} {x y : Int} (hv : layB L = true) (hk : bkC L F = true) (hb : b < F.length) (he : enB x y = true) :
    (okK L F b && (decide (loK L F b ≤ x) && decide (y ≤ hiK L F b))) = (decide (enLo L F b ≤ x) && decide (y ≤ enHi L F b)) := by
  have h := lo_hi_bd (n := n) hv hk hb
  have h2 := (enB_iff x y).1 he
  unfold okK enLo enHi
  cases slowB L F b
  · simp; omega
  · simp; omega
theorem fndE_bk {L : List Sg} {F : List Int} {q : Sc → Bool} (h : bkB L F = false) : fndE L F q = 1 := (fndC_bad h).2
set_option maxRecDepth 100000 in
theorem s_MayEnter (a : Option Addr) (n cap : Nat) (L : List Sg) (A : Option Addr) (m capF : Nat) (F : List Int) (p x y : Int) (w : World) (hs : Sgs w a n L) (hf : Sl w A m F) (hp : -9223372036854775808 ≤ p) (hp2 : p ≤ 9223372036854775807) :
    Calls Try.prog 55 #[.agg #[.slice a n cap], .slice A m capF, .int .i64 p, .agg #[.int .i64 x, .int .i64 y]] w fun e w' => e = .returned (.tuple #[.bool (meB L F p x y), .int .i64 (meE L F p x y)]) ∧ Later w w' := by
  have HC := fun w h1 h2 => s_l04Block a n cap L A m capF F p w h1 h2 hp hp2
  have HA := fun w h1 h2 => s_AreBlocks a n cap L A m capF F w h1 h2
  have HS := Lib.hid hs; have HF := Lib.hid hf
  cases hb : bkB L F
  · have e1 : Hid (meE L F p x y = 1) := Lib.hid (by unfold meE; rw [fndE_bk hb]; cases enB x y <;> rfl)
    have e2 : Hid (meB L F p x y = false) := Lib.hid (by unfold meB; rw [e1.out]; rfl)
    rw [hb] at HA
    clear hs hf hp hp2
    go_enter Try.func55, Try.ntmps55
    go_wp2_with (go_at_call 83; refine (HA _ (HS.out.later (by repeat (first | (with_reducible exact Later.refl _) | (with_reducible exact Hid.out (by assumption)) | (with_reducible refine Later.alloc ?_ _) | (with_reducible refine Later.setCell ?_ (by simp; omega) _) | (with_reducible refine Later.setCell ?_ (by simp) _) | (with_reducible refine Later.drewN ?_ _) | (with_reducible refine Later.drew ?_) | (with_reducible refine Later.trans ?_ (Hid.out (by assumption)))))) (HF.out.later (by repeat (first | (with_reducible exact Later.refl _) | (with_reducible exact Hid.out (by assumption)) | (with_reducible refine Later.alloc ?_ _) | (with_reducible refine Later.setCell ?_ (by simp; omega) _) | (with_reducible refine Later.setCell ?_ (by simp) _) | (with_reducible refine Later.drewN ?_ _) | (with_reducible refine Later.drew ?_) | (with_reducible refine Later.trans ?_ (Hid.out (by assumption))))))).mono ?_; rintro e w1 ⟨rfl, hb⟩; obtain ⟨H, hcc, hff, hzz⟩ := later_facts hb; clear hb; (try simp at hzz); have hz0 : w.heap.size < w1.heap.size := (by omega); have hz1 : w.heap.size + 1 < w1.heap.size := (by omega))
    go_ret2
    exact ⟨ret_bi (by rw [e2.out]) (by rw [e1.out]), (by repeat (first | (with_reducible exact Later.refl _) | (with_reducible exact Hid.out (by assumption)) | (with_reducible refine Later.alloc ?_ _) | (with_reducible refine Later.setCell ?_ (by simp; omega) _) | (with_reducible refine Later.setCell ?_ (by simp) _) | (with_reducible refine Later.drewN ?_ _) | (with_reducible refine Later.drew ?_) | (with_reducible refine Later.trans ?_ (Hid.out (by assumption)))))⟩
  · rw [hb] at HA
    cases he : enB x y
    · have e1 : Hid (meE L F p x y = 1) := Lib.hid (by unfold meE; rw [he]; rfl)
      have e2 : Hid (meB L F p x y = false) := Lib.hid (by unfold meB; rw [e1.out]; rfl)
      clear hs hf hp hp2
      go_enter Try.func55, Try.ntmps55
      go_wp2_with (first
          | (go_at_call 83; refine (HA _ (HS.out.later (by repeat (first | (with_reducible exact Later.refl _) | (with_reducible exact Hid.out (by assumption)) | (with_reducible refine Later.alloc ?_ _) | (with_reducible refine Later.setCell ?_ (by simp; omega) _) | (with_reducible refine Later.setCell ?_ (by simp) _) | (with_reducible refine Later.drewN ?_ _) | (with_reducible refine Later.drew ?_) | (with_reducible refine Later.trans ?_ (Hid.out (by assumption)))))) (HF.out.later (by repeat (first | (with_reducible exact Later.refl _) | (with_reducible exact Hid.out (by assumption)) | (with_reducible refine Later.alloc ?_ _) | (with_reducible refine Later.setCell ?_ (by simp; omega) _) | (with_reducible refine Later.setCell ?_ (by simp) _) | (with_reducible refine Later.drewN ?_ _) | (with_reducible refine Later.drew ?_) | (with_reducible refine Later.trans ?_ (Hid.out (by assumption))))))).mono ?_; rintro e w1 ⟨rfl, hb⟩; obtain ⟨H, hcc, hff, hzz⟩ := later_facts hb; clear hb; (try simp at hzz); have hz0 : w.heap.size < w1.heap.size := (by omega); have hz1 : w.heap.size + 1 < w1.heap.size := (by omega))
          | (go_at_call 46; refine (s_IsEnergy _ _ _).mono ?_; rintro e w1 ⟨rfl, hb⟩; obtain ⟨H, hcc, hff, hzz⟩ := later_facts hb; clear hb; (try simp at hzz); (try simp only [World.heap_drewN, World.cell?_drewN, World.frozen?_drewN] at hcc hff); have hz0 : w.heap.size < w1.heap.size := (by omega); (try (have hz1 : w.heap.size + 1 < w1.heap.size := (by omega))); (try (have hz2 : w.heap.size + 1 + 1 < w1.heap.size := (by omega))); (try (have hz3 : w.heap.size + 1 + 1 + 1 < w1.heap.size := (by omega))); (try (have hz4 : w.heap.size + 1 + 1 + 1 + 1 < w1.heap.size := (by omega)))))
      go_ret2
      exact ⟨ret_bi (by rw [e2.out]) (by rw [e1.out]), (by repeat (first | (with_reducible exact Later.refl _) | (with_reducible exact Hid.out (by assumption)) | (with_reducible refine Later.alloc ?_ _) | (with_reducible refine Later.setCell ?_ (by simp; omega) _) | (with_reducible refine Later.setCell ?_ (by simp) _) | (with_reducible refine Later.drewN ?_ _) | (with_reducible refine Later.drew ?_) | (with_reducible refine Later.trans ?_ (Hid.out (by assumption)))))⟩
    · by_cases h0 : fndE L F (isNo p) = 0
      · obtain ⟨b, rfl, hbl, hv, hk, hsec⟩ := isNo_cases h0
        have HE := fun w (h : Sgs w a n L) (h2 : Sl w A m F) => s_Entry a n cap L A m capF F b w h h2 hv hk (by rw [← hf.1]; exact hbl)
        rw [h0] at HC
        obtain ⟨e1, e2⟩ := meB_in h0 he
        rw [en_in (n := n) hv hk hbl he] at e2
        have E1 := Lib.hid e1
        generalize enLo L F b = lo at *
        generalize enHi L F b = hi at *
        have E2 := Lib.hid e2
        clear hs hf hp hp2 h0 hsec hv hk hbl hb e1 e2
        by_cases c1 : lo ≤ x
        · go_enter Try.func55, Try.ntmps55
          go_wp2_with (first
          | (go_at_call 83; refine (HA _ (HS.out.later (by repeat (first | (with_reducible exact Later.refl _) | (with_reducible exact Hid.out (by assumption)) | (with_reducible refine Later.alloc ?_ _) | (with_reducible refine Later.setCell ?_ (by simp; omega) _) | (with_reducible refine Later.setCell ?_ (by simp) _) | (with_reducible refine Later.drewN ?_ _) | (with_reducible refine Later.drew ?_) | (with_reducible refine Later.trans ?_ (Hid.out (by assumption)))))) (HF.out.later (by repeat (first | (with_reducible exact Later.refl _) | (with_reducible exact Hid.out (by assumption)) | (with_reducible refine Later.alloc ?_ _) | (with_reducible refine Later.setCell ?_ (by simp; omega) _) | (with_reducible refine Later.setCell ?_ (by simp) _) | (with_reducible refine Later.drewN ?_ _) | (with_reducible refine Later.drew ?_) | (with_reducible refine Later.trans ?_ (Hid.out (by assumption))))))).mono ?_; rintro e w1 ⟨rfl, hb⟩; obtain ⟨H, hcc, hff, hzz⟩ := later_facts hb; clear hb; (try simp at hzz); have hz0 : w.heap.size < w1.heap.size := (by omega); have hz1 : w.heap.size + 1 < w1.heap.size := (by omega))
          | (go_at_call 46; refine (s_IsEnergy _ _ _).mono ?_; rintro e w1 ⟨rfl, hb⟩; obtain ⟨H, hcc, hff, hzz⟩ := later_facts hb; clear hb; (try simp at hzz); (try simp only [World.heap_drewN, World.cell?_drewN, World.frozen?_drewN] at hcc hff); have hz0 : w.heap.size < w1.heap.size := (by omega); (try (have hz1 : w.heap.size + 1 < w1.heap.size := (by omega))); (try (have hz2 : w.heap.size + 1 + 1 < w1.heap.size := (by omega))); (try (have hz3 : w.heap.size + 1 + 1 + 1 < w1.heap.size := (by omega))); (try (have hz4 : w.heap.size + 1 + 1 + 1 + 1 < w1.heap.size := (by omega))))
          | (go_at_call 84; refine (HC _ (HS.out.later (by repeat (first | (with_reducible exact Later.refl _) | (with_reducible exact Hid.out (by assumption)) | (with_reducible refine Later.alloc ?_ _) | (with_reducible refine Later.setCell ?_ (by simp; omega) _) | (with_reducible refine Later.setCell ?_ (by simp) _) | (with_reducible refine Later.drewN ?_ _) | (with_reducible refine Later.drew ?_) | (with_reducible refine Later.trans ?_ (Hid.out (by assumption)))))) (HF.out.later (by repeat (first | (with_reducible exact Later.refl _) | (with_reducible exact Hid.out (by assumption)) | (with_reducible refine Later.alloc ?_ _) | (with_reducible refine Later.setCell ?_ (by simp; omega) _) | (with_reducible refine Later.setCell ?_ (by simp) _) | (with_reducible refine Later.drewN ?_ _) | (with_reducible refine Later.drew ?_) | (with_reducible refine Later.trans ?_ (Hid.out (by assumption))))))).mono ?_; rintro e w1 ⟨rfl, hb⟩; obtain ⟨H, hcc, hff, hzz⟩ := later_facts hb; clear hb; (try simp at hzz); have hz0 : w.heap.size < w1.heap.size := (by omega); have hz1 : w.heap.size + 1 < w1.heap.size := (by omega))
          | (go_at_call 85; refine (HE _ (HS.out.later (by repeat (first | (with_reducible exact Later.refl _) | (with_reducible exact Hid.out (by assumption)) | (with_reducible refine Later.alloc ?_ _) | (with_reducible refine Later.setCell ?_ (by simp; omega) _) | (with_reducible refine Later.setCell ?_ (by simp) _) | (with_reducible refine Later.drewN ?_ _) | (with_reducible refine Later.drew ?_) | (with_reducible refine Later.trans ?_ (Hid.out (by assumption)))))) (HF.out.later (by repeat (first | (with_reducible exact Later.refl _) | (with_reducible exact Hid.out (by assumption)) | (with_reducible refine Later.alloc ?_ _) | (with_reducible refine Later.setCell ?_ (by simp; omega) _) | (with_reducible refine Later.setCell ?_ (by simp) _) | (with_reducible refine Later.drewN ?_ _) | (with_reducible refine Later.drew ?_) | (with_reducible refine Later.trans ?_ (Hid.out (by assumption))))))).mono ?_; rintro e w2 ⟨rfl, hb⟩; obtain ⟨H, hcc, hff, hzz⟩ := later_facts hb; clear hb; (try simp at hzz); have hz0 : w.heap.size < w2.heap.size := (by omega); have hz1 : w.heap.size + 1 < w2.heap.size := (by omega)))
          go_ret2
          exact ⟨ret_bi (by rw [E2.out]; simp [c1]) (by rw [E1.out]), (by repeat (first | (with_reducible exact Later.refl _) | (with_reducible exact Hid.out (by assumption)) | (with_reducible refine Later.alloc ?_ _) | (with_reducible refine Later.setCell ?_ (by simp; omega) _) | (with_reducible refine Later.setCell ?_ (by simp) _) | (with_reducible refine Later.drewN ?_ _) | (with_reducible refine Later.drew ?_) | (with_reducible refine Later.trans ?_ (Hid.out (by assumption)))))⟩
        · go_enter Try.func55, Try.ntmps55
          go_wp2_with (first
          | (go_at_call 83; refine (HA _ (HS.out.later (by repeat (first | (with_reducible exact Later.refl _) | (with_reducible exact Hid.out (by assumption)) | (with_reducible refine Later.alloc ?_ _) | (with_reducible refine Later.setCell ?_ (by simp; omega) _) | (with_reducible refine Later.setCell ?_ (by simp) _) | (with_reducible refine Later.drewN ?_ _) | (with_reducible refine Later.drew ?_) | (with_reducible refine Later.trans ?_ (Hid.out (by assumption)))))) (HF.out.later (by repeat (first | (with_reducible exact Later.refl _) | (with_reducible exact Hid.out (by assumption)) | (with_reducible refine Later.alloc ?_ _) | (with_reducible refine Later.setCell ?_ (by simp; omega) _) | (with_reducible refine Later.setCell ?_ (by simp) _) | (with_reducible refine Later.drewN ?_ _) | (with_reducible refine Later.drew ?_) | (with_reducible refine Later.trans ?_ (Hid.out (by assumption))))))).mono ?_; rintro e w1 ⟨rfl, hb⟩; obtain ⟨H, hcc, hff, hzz⟩ := later_facts hb; clear hb; (try simp at hzz); have hz0 : w.heap.size < w1.heap.size := (by omega); have hz1 : w.heap.size + 1 < w1.heap.size := (by omega))
          | (go_at_call 46; refine (s_IsEnergy _ _ _).mono ?_; rintro e w1 ⟨rfl, hb⟩; obtain ⟨H, hcc, hff, hzz⟩ := later_facts hb; clear hb; (try simp at hzz); (try simp only [World.heap_drewN, World.cell?_drewN, World.frozen?_drewN] at hcc hff); have hz0 : w.heap.size < w1.heap.size := (by omega); (try (have hz1 : w.heap.size + 1 < w1.heap.size := (by omega))); (try (have hz2 : w.heap.size + 1 + 1 < w1.heap.size := (by omega))); (try (have hz3 : w.heap.size + 1 + 1 + 1 < w1.heap.size := (by omega))); (try (have hz4 : w.heap.size + 1 + 1 + 1 + 1 < w1.heap.size := (by omega))))
          | (go_at_call 84; refine (HC _ (HS.out.later (by repeat (first | (with_reducible exact Later.refl _) | (with_reducible exact Hid.out (by assumption)) | (with_reducible refine Later.alloc ?_ _) | (with_reducible refine Later.setCell ?_ (by simp; omega) _) | (with_reducible refine Later.setCell ?_ (by simp) _) | (with_reducible refine Later.drewN ?_ _) | (with_reducible refine Later.drew ?_) | (with_reducible refine Later.trans ?_ (Hid.out (by assumption)))))) (HF.out.later (by repeat (first | (with_reducible exact Later.refl _) | (with_reducible exact Hid.out (by assumption)) | (with_reducible refine Later.alloc ?_ _) | (with_reducible refine Later.setCell ?_ (by simp; omega) _) | (with_reducible refine Later.setCell ?_ (by simp) _) | (with_reducible refine Later.drewN ?_ _) | (with_reducible refine Later.drew ?_) | (with_reducible refine Later.trans ?_ (Hid.out (by assumption))))))).mono ?_; rintro e w1 ⟨rfl, hb⟩; obtain ⟨H, hcc, hff, hzz⟩ := later_facts hb; clear hb; (try simp at hzz); have hz0 : w.heap.size < w1.heap.size := (by omega); have hz1 : w.heap.size + 1 < w1.heap.size := (by omega))
          | (go_at_call 85; refine (HE _ (HS.out.later (by repeat (first | (with_reducible exact Later.refl _) | (with_reducible exact Hid.out (by assumption)) | (with_reducible refine Later.alloc ?_ _) | (with_reducible refine Later.setCell ?_ (by simp; omega) _) | (with_reducible refine Later.setCell ?_ (by simp) _) | (with_reducible refine Later.drewN ?_ _) | (with_reducible refine Later.drew ?_) | (with_reducible refine Later.trans ?_ (Hid.out (by assumption)))))) (HF.out.later (by repeat (first | (with_reducible exact Later.refl _) | (with_reducible exact Hid.out (by assumption)) | (with_reducible refine Later.alloc ?_ _) | (with_reducible refine Later.setCell ?_ (by simp; omega) _) | (with_reducible refine Later.setCell ?_ (by simp) _) | (with_reducible refine Later.drewN ?_ _) | (with_reducible refine Later.drew ?_) | (with_reducible refine Later.trans ?_ (Hid.out (by assumption))))))).mono ?_; rintro e w2 ⟨rfl, hb⟩; obtain ⟨H, hcc, hff, hzz⟩ := later_facts hb; clear hb; (try simp at hzz); have hz0 : w.heap.size < w2.heap.size := (by omega); have hz1 : w.heap.size + 1 < w2.heap.size := (by omega)))
          go_ret2
          exact ⟨ret_bi (by rw [E2.out]; simp; omega) (by rw [E1.out]), (by repeat (first | (with_reducible exact Later.refl _) | (with_reducible exact Hid.out (by assumption)) | (with_reducible refine Later.alloc ?_ _) | (with_reducible refine Later.setCell ?_ (by simp; omega) _) | (with_reducible refine Later.setCell ?_ (by simp) _) | (with_reducible refine Later.drewN ?_ _) | (with_reducible refine Later.drew ?_) | (with_reducible refine Later.trans ?_ (Hid.out (by assumption)))))⟩
      · have e1 : Hid (meE L F p x y = fndE L F (isNo p)) := Lib.hid (by unfold meE; rw [if_pos he])
        have e2 : Hid (meB L F p x y = false) := Lib.hid (by unfold meB; rw [e1.out]; simp [h0])
        generalize fndE L F (isNo p) = ce at *
        have hne : (ce != 0) = true := by simpa using h0
        clear hs hf h0 hp hp2
        go_enter Try.func55, Try.ntmps55
        go_wp2_with (first
          | (go_at_call 83; refine (HA _ (HS.out.later (by repeat (first | (with_reducible exact Later.refl _) | (with_reducible exact Hid.out (by assumption)) | (with_reducible refine Later.alloc ?_ _) | (with_reducible refine Later.setCell ?_ (by simp; omega) _) | (with_reducible refine Later.setCell ?_ (by simp) _) | (with_reducible refine Later.drewN ?_ _) | (with_reducible refine Later.drew ?_) | (with_reducible refine Later.trans ?_ (Hid.out (by assumption)))))) (HF.out.later (by repeat (first | (with_reducible exact Later.refl _) | (with_reducible exact Hid.out (by assumption)) | (with_reducible refine Later.alloc ?_ _) | (with_reducible refine Later.setCell ?_ (by simp; omega) _) | (with_reducible refine Later.setCell ?_ (by simp) _) | (with_reducible refine Later.drewN ?_ _) | (with_reducible refine Later.drew ?_) | (with_reducible refine Later.trans ?_ (Hid.out (by assumption))))))).mono ?_; rintro e w1 ⟨rfl, hb⟩; obtain ⟨H, hcc, hff, hzz⟩ := later_facts hb; clear hb; (try simp at hzz); have hz0 : w.heap.size < w1.heap.size := (by omega); have hz1 : w.heap.size + 1 < w1.heap.size := (by omega))
          | (go_at_call 46; refine (s_IsEnergy _ _ _).mono ?_; rintro e w1 ⟨rfl, hb⟩; obtain ⟨H, hcc, hff, hzz⟩ := later_facts hb; clear hb; (try simp at hzz); (try simp only [World.heap_drewN, World.cell?_drewN, World.frozen?_drewN] at hcc hff); have hz0 : w.heap.size < w1.heap.size := (by omega); (try (have hz1 : w.heap.size + 1 < w1.heap.size := (by omega))); (try (have hz2 : w.heap.size + 1 + 1 < w1.heap.size := (by omega))); (try (have hz3 : w.heap.size + 1 + 1 + 1 < w1.heap.size := (by omega))); (try (have hz4 : w.heap.size + 1 + 1 + 1 + 1 < w1.heap.size := (by omega))))
          | (go_at_call 84; refine (HC _ (HS.out.later (by repeat (first | (with_reducible exact Later.refl _) | (with_reducible exact Hid.out (by assumption)) | (with_reducible refine Later.alloc ?_ _) | (with_reducible refine Later.setCell ?_ (by simp; omega) _) | (with_reducible refine Later.setCell ?_ (by simp) _) | (with_reducible refine Later.drewN ?_ _) | (with_reducible refine Later.drew ?_) | (with_reducible refine Later.trans ?_ (Hid.out (by assumption)))))) (HF.out.later (by repeat (first | (with_reducible exact Later.refl _) | (with_reducible exact Hid.out (by assumption)) | (with_reducible refine Later.alloc ?_ _) | (with_reducible refine Later.setCell ?_ (by simp; omega) _) | (with_reducible refine Later.setCell ?_ (by simp) _) | (with_reducible refine Later.drewN ?_ _) | (with_reducible refine Later.drew ?_) | (with_reducible refine Later.trans ?_ (Hid.out (by assumption))))))).mono ?_; rintro e w1 ⟨rfl, hb⟩; obtain ⟨H, hcc, hff, hzz⟩ := later_facts hb; clear hb; (try simp at hzz); have hz0 : w.heap.size < w1.heap.size := (by omega); have hz1 : w.heap.size + 1 < w1.heap.size := (by omega)))
        go_ret2
        exact ⟨ret_bi (by rw [e2.out]) (by rw [e1.out]), (by repeat (first | (with_reducible exact Later.refl _) | (with_reducible exact Hid.out (by assumption)) | (with_reducible refine Later.alloc ?_ _) | (with_reducible refine Later.setCell ?_ (by simp; omega) _) | (with_reducible refine Later.setCell ?_ (by simp) _) | (with_reducible refine Later.drewN ?_ _) | (with_reducible refine Later.drew ?_) | (with_reducible refine Later.trans ?_ (Hid.out (by assumption)))))⟩
end Go.Proofs.Ytnmlkigpiaekjaa
namespace Go.Proofs.Ytnmlkigpiaekjaa
open Go.RowKit
set_option maxHeartbeats 2000000
set_option linter.unusedVariables false
set_option linter.unusedSimpArgs false
theorem l_eqInt64S (a b : Option Addr) (n cap m cap' : Nat) (l : List Int) (w : World) (hs : Sl w a n l) (ht : Sl w b m l) :
    Calls Try.prog 30 #[.slice a n cap, .slice b m cap'] w fun e w' => e = .returned (.bool true) ∧ ∃ q, w' = w.drewN q := by
  have HS := Lib.hid hs
  have HT := Lib.hid ht
  obtain rfl : n = m := by rw [← hs.1, ← ht.1]
  have hn := hs.2.1
  clear hs ht
  have e0 : ((n : Int) != (n : Int)) = false := by simp
  go_enter Try.func30, Try.ntmps30
  go_wp2
  go_loopw [5] (fun i wr => ∃ k : Nat, k ≤ n ∧ i = .int .i64 k ∧ ∃ q, wr = w.drewN q) (fun i _ => n - (intOf i).toNat)
  case atStart => exact ⟨0, by omega, rfl, 0, rfl⟩
  case round =>
    obtain ⟨k, hk, rfl, q, rfl⟩ := hrel
    by_cases hlt : k < n
    · obtain ⟨b1, o1, rfl, hc1⟩ := HS.out.at k hlt
      obtain ⟨b2, o2, rfl, hc2⟩ := HT.out.at k hlt
      go_wp2
      go_quiet (fail)
      go_wp2
      go_roundw
      case rel => exact ⟨k + 1, by omega, by go_num, by first | exact ⟨_, rfl⟩ | exact dr _ _ _⟩
      case measure => simp [intOf]; omega
    · go_wp2
      go_ret
      exact ⟨rfl, by first | exact ⟨_, rfl⟩ | exact dr _ _ _⟩
end Go.Proofs.Ytnmlkigpiaekjaa
namespace Go.Proofs.Ytnmlkigpiaekjaa
open Go.RowKit
set_option maxHeartbeats 2000000
set_option linter.unusedVariables false
set_option linter.unusedSimpArgs false
/-- the cells of a copy of l, of which k elements are written -/
def part (l : List Int) (n k : Nat) : List Value := (l.take k).map (Value.int .i64) ++ List.replicate (n - k) (.int .i64 0)
theorem part_len (l : List Int) (n k : Nat) (hl : l.length = n) (hk : k ≤ n) : (part l n k).length = n := by
  simp [part]; omega
theorem part_zero (l : List Int) (n : Nat) : part l n 0 = List.replicate n (.int .i64 0) := by simp [part]
theorem part_set (l : List Int) (n k : Nat) (hl : l.length = n) (hk : k < n) : (part l n k).set k (.int .i64 (gx l k)) = part l n (k + 1) := by
  have e1 : n - k = (n - (k + 1)) + 1 := by omega
  have e2 : l.take (k + 1) = l.take k ++ [gx l k] := by
    rw [List.take_succ_eq_append_getElem (by omega), gx_of l k (by omega)]
  unfold part
  rw [e1, e2, List.set_append]
  have hm : min k l.length = k := by omega
  simp [List.replicate_succ, hm]
theorem part_full (l : List Int) (n : Nat) (hl : l.length = n) : part l n n = l.map (Value.int .i64) := by
  unfold part; rw [List.take_of_length_le (by omega)]; simp
theorem part_get (l : List Int) (n k : Nat) (hl : l.length = n) (hk : k < n) : (part l n k)[k]? = some (.int .i64 0) := by
  unfold part
  rw [List.getElem?_append_right (by simp; omega)]
  simp [List.getElem?_replicate]
  omega
def Copied (w : World) (n : Nat) (l : List Int) (e : Ending) (w' : World) : Prop :=
  ∃ g, e = .returned (.slice (some ⟨g, 0, none⟩) n n) ∧ w.heap.size ≤ g ∧ g < w'.heap.size ∧ Sl w' (some ⟨g, 0, none⟩) n l ∧ Below w.heap.size w w'
theorem l_toInt64S (a : Option Addr) (n cap : Nat) (l : List Int) (w : World) (hs : Sl w a n l) (hn : n ≤ 1048576) :
    Calls Try.prog 28 #[.slice a n cap] w (Copied w n l) := by
  have HS := Lib.hid hs
  have HL := Lib.hid hs.1
  clear hs
  obtain ⟨i0, hi, hz0, hz1, hz2⟩ := info_parts info_i64
  have HI := Lib.hid hi; clear hi
  have HZ0 := Lib.hid hz0; clear hz0
  have HZ1 := Lib.hid hz1; clear hz1
  have HZ2 := Lib.hid hz2; clear hz2
  go_enter Try.func28, Try.ntmps28
  go_wp2_with (refine wpList_make_full _ rfl _ _ _ rfl w.heap.size 2 i0 (.int .i64 0) 1 Try.underlying55 HI.out HZ0.out HZ1.out _ _ _ _ n rfl rfl rfl rfl (by rw [HZ2.out]; omega) (by unfold maxLen; omega) (Nat.le_refl _) ?_; intro w1 hown hgrow)
  have hown' : w1.ownsRow w.heap.size 2 1 (.slice (some ⟨w.heap.size, 0, none⟩) n n) n (part l n 0) := by
    rw [part_zero, ← toList_madeCells_one]; simpa [Value.cells] using hown
  have hb1 : Below w.heap.size w w1 := (Below.refl _ _).grown hgrow (Nat.le_refl _) (by simp)
  have HO := Lib.hid hown'
  have HB := Lib.hid hb1
  clear hown hgrow hown' hb1
  go_loopw [4] (fun i wr => ∃ k : Nat, k ≤ n ∧ i = .int .i64 k ∧ wr.ownsRow w.heap.size 2 1 (.slice (some ⟨w.heap.size, 0, none⟩) n n) n (part l n k) ∧ Below w.heap.size w wr) (fun i _ => n - (intOf i).toNat)
  case atStart => exact ⟨0, by omega, rfl, HO.out, HB.out⟩
  case round =>
    clear HO HB
    obtain ⟨k, hk, rfl, ho, hb⟩ := hrel
    have HO := Lib.hid ho
    have HB := Lib.hid hb
    clear ho hb
    by_cases hlt : k < n
    · obtain ⟨b, off, rfl, hc0⟩ := HS.out.at k hlt
      have hc : wr.cell? ⟨b, off + k, none⟩ = some (.int .i64 (gx l k)) := by rw [HB.out.cell (p := ⟨b, off + k, none⟩) (cell_lt hc0)]; exact hc0
      have ht : wr.cell? ⟨w.heap.size, k, none⟩ = some (.int .i64 0) := by rw [HO.out.cellAt k (by omega)]; exact part_get l n k HL.out hlt
      have hf : wr.frozen? ⟨w.heap.size, k, none⟩ = false := HO.out.frozenAt k
      have HN : Hid ((wr.setCell ⟨w.heap.size, k, none⟩ (.int .i64 (gx l k))).ownsRow w.heap.size 2 1 (.slice (some ⟨w.heap.size, 0, none⟩) n n) n (part l n (k + 1))) := by
        refine Lib.hid ?_
        rw [← part_set l n k HL.out hlt]
        exact (HO.out.stored k _).1
      have HM : Hid (Below w.heap.size w (wr.setCell ⟨w.heap.size, k, none⟩ (.int .i64 (gx l k)))) := Lib.hid (HB.out.setCell (Nat.le_refl _) _)
      clear hc0
      go_wp2
      go_roundw
      case rel => exact ⟨k + 1, by omega, by go_num, HN.out, HM.out⟩
      case measure => simp [intOf]; omega
    · obtain rfl : n = k := by omega
      go_wp2
      go_ret
      have hown := HO.out
      rw [part_full l n HL.out] at hown
      have hlt := hown.lt w.heap.size rfl
      exact ⟨w.heap.size, rfl, Nat.le_refl _, hlt.2, sl_of_row hown HL.out (by omega) HS.out.2.2.2, HB.out⟩
end Go.Proofs.Ytnmlkigpiaekjaa
namespace Go.Proofs.Ytnmlkigpiaekjaa
open Go.RowKit
set_option maxHeartbeats 2000000
set_option linter.unusedVariables false
set_option linter.unusedSimpArgs false
theorem made7 (n j : Nat) (h : j < n * 7) : ((madeCells (Value.cells (.agg #[.int .i64 0, .int .i64 0, .int .i64 0, .int .i64 0, .int .i64 0, .int .i64 0, .int .i64 0])) (n * 7)).toList)[j]? = some (.int .i64 0) := by
  have e : j % 7 = 0 ∨ j % 7 = 1 ∨ j % 7 = 2 ∨ j % 7 = 3 ∨ j % 7 = 4 ∨ j % 7 = 5 ∨ j % 7 = 6 := by omega
  rcases e with e | e | e | e | e | e | e <;> simp [madeCells, Value.cells, h, e]
theorem l_toSegmentS (a : Option Addr) (n cap : Nat) (L : List Sg) (w : World) (hs : Sgs w a n L) (hn : n ≤ 1048576) :
    Calls Try.prog 51 #[.slice a n cap] w (CopiedS w n L) := by
  have HS := Lib.hid hs
  have HL := Lib.hid hs.1
  clear hs
  obtain ⟨i0, hi, hz0, hz1, hz2⟩ := info_parts info_seg
  have HI := Lib.hid hi; clear hi
  have HZ0 := Lib.hid hz0; clear hz0
  have HZ1 := Lib.hid hz1; clear hz1
  have HZ2 := Lib.hid hz2; clear hz2
  go_enter Try.func51, Try.ntmps51
  go_wp2_with (refine wpList_make_full _ rfl _ _ _ rfl w.heap.size 77 i0 (.agg #[.int .i64 0, .int .i64 0, .int .i64 0, .int .i64 0, .int .i64 0, .int .i64 0, .int .i64 0]) 7 Try.underlying24 HI.out HZ0.out HZ1.out _ _ _ _ n rfl rfl rfl rfl (by rw [HZ2.out]; omega) (by unfold maxLen; omega) (Nat.le_refl _) ?_; intro w1 hown hgrow)
  have HO : Hid (SgRow w1 w.heap.size n (fltK L 0)) := Lib.hid ((SgRow.of_own hown (fun j hj => made7 n j hj)).congr (fun j hj => by unfold fltK; rw [if_neg (by omega)]))
  have HB : Hid (Later w w1) := Lib.hid ((Below.refl _ _).grown hgrow (Nat.le_refl _) (by simp))
  clear hown hgrow
  go_loopw [4] (fun i wr => ∃ k : Nat, k ≤ n ∧ i = .int .i64 k ∧ SgRow wr w.heap.size n (fltK L k) ∧ Later w wr) (fun i _ => n - (intOf i).toNat)
  case atStart => exact ⟨0, by omega, rfl, HO.out, HB.out⟩
  case round =>
    clear HO HB
    obtain ⟨k, hk, rfl, ho, hb⟩ := hrel
    have HR := Lib.hid ho
    have HW := Lib.hid hb
    have hsz := ho.lt
    clear ho hb
    by_cases hlt : k < n
    · obtain ⟨b', off', rfl, hb', hc⟩ := (HS.out.later HW.out).at k hlt
      obtain ⟨c0, c1, c2, c3, c4, c5, c6⟩ := hc
      go_wp2_with fail
      refine (l_toSegment (sx L k) _).mono ?_
      rintro e w2 ⟨rfl, hb2⟩
      have H2 := Lib.hid hb2
      have R2 := Lib.hid (HR.out.later hb2)
      have hsz2 : w.heap.size < w2.heap.size := R2.out.lt
      obtain ⟨u0, u1, u2, u3, u4, u5, u6, z0, z1, z2, z3, z4, z5, z6, g0, g1, g2, g3, g4, g5, g6⟩ := R2.out.seven' k hlt
      clear hb2 c0 c1 c2 c3 c4 c5 c6 HR
      go_wp2_with fail
      go_roundw
      case rel =>
        exact ⟨k + 1, by omega, by go_num, R2.out.putK hlt, (by repeat (first | (with_reducible exact Later.refl _) | (with_reducible exact Hid.out (by assumption)) | (with_reducible refine Later.alloc ?_ _) | (with_reducible refine Later.setCell ?_ (Nat.le_refl _) _) | (with_reducible refine Later.drewN ?_ _) | (with_reducible refine Later.drew ?_) | (with_reducible refine Later.trans ?_ (Hid.out (by assumption)))))⟩
      case measure => simp [intOf]; omega
    · obtain rfl : k = n := by omega
      go_wp2
      go_ret
      exact ⟨w.heap.size, rfl, Nat.le_refl _, HR.out.congr (fun j hj => by unfold fltK; rw [if_pos hj]), HW.out⟩
/-- what a copy of a layout leaves -/
def CopiedL (w : World) (n : Nat) (L : List Sg) (e : Ending) (w' : World) : Prop :=
  ∃ g, e = .returned (.agg #[.slice (some ⟨g, 0, none⟩) n n]) ∧ w.heap.size ≤ g ∧ SgRow w' g n (flt L) ∧ Later w w'
theorem l_toLayout (a : Option Addr) (n cap : Nat) (L : List Sg) (w : World) (hs : Sgs w a n L) (hn : n ≤ 1048576) :
    Calls Try.prog 20 #[.agg #[.slice a n cap]] w (CopiedL w n L) := by
  have HS := Lib.hid hs
  clear hs
  go_enter Try.func20, Try.ntmps20
  go_wp2_with fail
  refine (l_toSegmentS a n cap L _ (HS.out.later (((Later.refl _).alloc _).alloc _ |>.alloc _)) hn).mono ?_
  rintro e w1 ⟨g, rfl, hg, hr, hb⟩
  obtain ⟨H, hcc, hff, hzz⟩ := later_facts hb
  have HR := Lib.hid hr
  simp only [World.size_alloc] at hg hzz
  clear hb hr
  have hz1 : w.heap.size + 1 < w1.heap.size := by omega
  have hz2 : w.heap.size + 1 + 1 < w1.heap.size := by omega
  have hz0 : w.heap.size < w1.heap.size := by omega
  have R2 : ∀ u v, Hid (SgRow ((w1.setCell ⟨w.heap.size + 1 + 1, 0, none⟩ u).setCell ⟨w.heap.size + 1, 0, none⟩ v) g n (flt L)) := fun u v => Lib.hid ((HR.out.far (by simp; omega) u).far (by simp; omega) v)
  have RR := Lib.hid R2
  clear R2
  have hg0 : w.heap.size ≤ g := by omega
  clear hg hzz
  go_wp2_with fail
  refine bodyPost_ret (v := .agg #[.slice (some ⟨g, 0, none⟩) n n]) (by simp [results, Try.results20, go_sem, *]) rfl ⟨g, rfl, hg0, (RR.out _ _).out, ?_⟩
  exact (by repeat (first | (with_reducible exact Later.refl _) | (with_reducible exact Hid.out (by assumption)) | (with_reducible refine Later.setCell ?_ (by simp; omega) _) | (with_reducible refine Later.setCell ?_ (by simp) _) | (with_reducible refine Later.alloc ?_ _) | (with_reducible refine Later.drewN ?_ _) | (with_reducible refine Later.drew ?_) | (with_reducible refine Later.trans ?_ (Hid.out (by assumption)))))
end Go.Proofs.Ytnmlkigpiaekjaa
namespace Go.Proofs.Ytnmlkigpiaekjaa
open Go.RowKit
set_option linter.unusedVariables false
set_option linter.unusedSimpArgs false
theorem szI_big {n : Nat} (h : 1048576 < n) : szI 1048576 n = -1 := by unfold szI; rw [if_pos (by omega)]
theorem szI_ok {n : Nat} (h : n ≤ 1048576) : szI 1048576 n = 1048576 - n := by unfold szI; rw [if_neg (by omega)]
theorem two_cells {w w' : World} {b1 b2 : Nat} {u v : Value} (h1 : w.cell? ⟨b1, 0, none⟩ = some u) (l1 : b1 < w.heap.size) (h2 : w.cell? ⟨b2, 0, none⟩ = some v) (l2 : b2 < w.heap.size) (k : Later w w') :
    w'.cell? ⟨b1, 0, none⟩ = some u ∧ w'.cell? ⟨b2, 0, none⟩ = some v :=
  ⟨by rw [k.cell (p := ⟨b1, 0, none⟩) l1]; exact h1, by rw [k.cell (p := ⟨b2, 0, none⟩) l2]; exact h2⟩
theorem i64w {a : Int} (h : (Lit.int .i64 a).wf = true) : -9223372036854775808 ≤ a ∧ a ≤ 9223372036854775807 := by
  simpa [Lit.wf, IntKind.min, IntKind.max, IntKind.signed, IntKind.bits] using h
end Go.Proofs.Ytnmlkigpiaekjaa
namespace Go.Proofs.Ytnmlkigpiaekjaa
open Go.RowKit
set_option maxHeartbeats 2000000
set_option linter.unusedVariables false
set_option linter.unusedSimpArgs false
theorem isRow_leE {k : IntKind} {w : World} {a : Option Addr} {len cap : Nat} {zs : List Int} (h : IsRow k w a len cap zs) : len ≤ cap := by
  rcases h with ⟨rfl, rfl, rfl, rfl⟩ | ⟨x, rfl, hl, _⟩
  · exact Nat.le_refl _
  · exact hl
theorem l_eqIE (a b : Option Addr) (n cap m cap' : Nat) (l : List Int) (w : World) (hs : Sl w a n l) (ht : Sl w b m l) :
    Calls Try.prog 30 #[.slice a n cap, .slice b m cap'] w fun e w' => e = .returned (.bool true) ∧ Later w w' :=
  (l_eqInt64S a b n cap m cap' l w hs ht).mono fun e w' ⟨he, q, hq⟩ => ⟨he, by rw [hq]; exact (Later.refl _).drewN q⟩
theorem later_gE {w w' : World} (h : Later w w') (row : Option Nat) : w.grownBy w' row := ⟨h.os, h.tape, h.output, h.size, fun k hk _ => h.block k hk⟩
theorem Own.keptE {w w' : World} {base : Nat} {v : Value} {l : List Int} {row : Option Nat} (h : Own w base v l) (hg : w.grownBy w' row) (hr : ∀ k, v.ownBlock = some k → row ≠ some k) : Own w' base v l := by
  refine ⟨h.1.kept hg ?_, h.2⟩
  cases hv : v.ownBlock with
  | none => exact .inl rfl
  | some k => exact .inr (fun e => hr k hv e.symm)
theorem Own.laterE {w w' : World} {base : Nat} {v : Value} {l : List Int} (h : Own w base v l) (k : Later w w') : Own w' base v l := h.keptE (later_gE k none) (fun _ _ e => by cases e)
theorem Sl.laterE {w w' : World} {a : Option Addr} {n : Nat} {l : List Int} (h : Sl w a n l) (hb : Later w w') : Sl w' a n l := sl_later h hb
theorem later_growE {w wr w5 : World} {row : Option Nat} (W : Later w wr) (hg : wr.grownBy w5 row) (hr : ∀ k, row = some k → w.heap.size ≤ k) : Later w w5 := Below.grown W hg W.size hr
theorem own_slE {w : World} {base g n cap : Nat} {l : List Int} (h : Own w base (.slice (some ⟨g, 0, none⟩) n cap) l) (hl : l.length = n) : Sl w (some ⟨g, 0, none⟩) n l := by
  obtain ⟨a, c, e, s, _⟩ := h.sl
  rw [hl] at e s
  cases e; exact s
end Go.Proofs.Ytnmlkigpiaekjaa
namespace Go.Proofs.Ytnmlkigpiaekjaa
open Go.RowKit
set_option maxHeartbeats 2000000
set_option linter.unusedVariables false
set_option linter.unusedSimpArgs false
/-- the list l, of which k elements are marked -/
def mrk (l : List Int) (k : Nat) : List Int := (List.range l.length).map fun j => if j < k then 1 + (j : Int) else gx l j
theorem mrk_len (l : List Int) (k : Nat) : (mrk l k).length = l.length := by simp [mrk]
theorem mrk_get (l : List Int) (k j : Nat) (h : j < l.length) : (mrk l k)[j]? = some (if j < k then 1 + (j : Int) else gx l j) := by simp [mrk, h]
theorem mrk_0 (l : List Int) : mrk l 0 = l := by
  apply List.ext_getElem?
  intro j
  by_cases h : j < l.length
  · rw [mrk_get l 0 j h, if_neg (by omega), List.getElem?_eq_getElem h, gx_of l j h]
  · rw [List.getElem?_eq_none (by rw [mrk_len]; omega), List.getElem?_eq_none (by omega)]
theorem mrk_set (l : List Int) (k : Nat) (hk : k < l.length) : (mrk l k).set k (1 + (k : Int)) = mrk l (k + 1) := by
  apply List.ext_getElem?
  intro j
  by_cases h : j < l.length
  · rw [List.getElem?_set, mrk_len, mrk_get l k j h, mrk_get l (k + 1) j h]
    by_cases e : k = j
    · subst e; simp [h]
    · rw [if_neg e]
      by_cases c : j < k
      · rw [if_pos c, if_pos (by omega)]
      · rw [if_neg c, if_neg (by omega)]
  · rw [List.getElem?_eq_none (by simp [mrk]; omega), List.getElem?_eq_none (by simp [mrk]; omega)]
theorem mrk_gx (l : List Int) (k : Nat) (h : k < l.length) : gx (mrk l l.length) k = 1 + (k : Int) := by
  rw [gx_of _ _ (by rw [mrk_len]; exact h)]
  simp [mrk, h]
/-- what marking leaves -/
def Marked (w : World) (base : Nat) (v : Value) (l : List Int) (e : Ending) (w' : World) : Prop :=
  e = .returned (.int .i64 (1 + (l.length : Int))) ∧ Own w' base v (mrk l l.length) ∧ w.grownBy w' v.ownBlock
theorem mrk_in (l : List Int) (k : Nat) (hl : l.length ≤ 1000000000) (h : ∀ x ∈ l, InR x) : ∀ x ∈ mrk l k, InR x := by
  intro x hx
  obtain ⟨j, hj, rfl⟩ := List.mem_map.1 hx
  rw [List.mem_range] at hj
  by_cases c : j < k
  · simp only [if_pos c]; exact ⟨by omega, by omega⟩
  · simp only [if_neg c]; exact h _ (gx_mem l j hj)
theorem l_markInt64S (v : Value) (base : Nat) (l : List Int) (w : World) (ho : Own w base v l) (hl : l.length ≤ 1000000000) :
    Calls Try.prog 33 #[v, .int .i64 1] w (Marked w base v l) := by
  have HI := Lib.hid ho.2
  rcases ho.1.2 with ⟨rfl, h0⟩ | ⟨g, cap, cur, rfl, hb, hg, hnc, hcm, _⟩
  · have e : l = [] := List.length_eq_zero_iff.1 h0
    subst e
    have HO := Lib.hid ho
    clear ho h0
    go_enter Try.func33, Try.ntmps33
    go_wp2
    go_loop [1, 5] (fun m i => i = .int .i64 0 ∧ m = .int .i64 1) (fun _ _ => 0)
    case atStart => exact ⟨rfl, rfl⟩
    case round =>
      obtain ⟨rfl, rfl⟩ := hrel
      go_wp2
      go_ret
      exact ⟨rfl, HO.out, ⟨rfl, rfl, rfl, Nat.le_refl _, fun _ _ _ => rfl⟩⟩
  · have HO := Lib.hid ho.1
    obtain ⟨n, hn⟩ : ∃ n, n = l.length := ⟨_, rfl⟩
    have HN := Lib.hid hn
    have O1 : Hid (w.ownsRow base 2 1 (.slice (some ⟨g, 0, none⟩) n cap) n ((mrk l 0).map (Value.int .i64))) := Lib.hid (by rw [mrk_0, HN.out]; exact ho.1)
    have hl' : n ≤ 1000000000 := by omega
    rw [← hn]
    clear hg hnc hcm ho hb hn hl
    go_enter Try.func33, Try.ntmps33
    go_wp2
    go_loopw [1, 5] (fun m i wr => ∃ k : Nat, k ≤ n ∧ i = .int .i64 k ∧ m = .int .i64 (1 + (k : Int)) ∧ wr.ownsRow base 2 1 (.slice (some ⟨g, 0, none⟩) n cap) n ((mrk l k).map (Value.int .i64)) ∧ w.grownBy wr (some g)) (fun _ i _ => n - (intOf i).toNat)
    case atStart => exact ⟨0, by omega, rfl, rfl, O1.out, ⟨rfl, rfl, rfl, Nat.le_refl _, fun _ _ _ => rfl⟩⟩
    case round =>
      obtain ⟨k, hk, rfl, rfl, ho, hg⟩ := hrel
      have HR := Lib.hid ho; have HG := Lib.hid hg
      clear ho hg
      by_cases hlt : k < n
      · obtain ⟨z, hz⟩ : ∃ z, wr.cell? ⟨g, k, none⟩ = some (.int .i64 z) := ⟨_, by rw [HR.out.cellAt k (by omega), List.getElem?_map, mrk_get l k k (by rw [← HN.out]; exact hlt)]; rfl⟩
        have hf : wr.frozen? ⟨g, k, none⟩ = false := HR.out.frozenAt k
        have hset : Hid (((mrk l k).map (Value.int .i64)).set k (.int .i64 (1 + (k : Int))) = (mrk l (k + 1)).map (Value.int .i64)) := Lib.hid (by rw [← mrk_set l k (by rw [← HN.out]; exact hlt), List.map_set])
        go_wp2
        go_roundw
        case rel => exact ⟨k + 1, by omega, by go_num, by go_num, by rw [← hset.out]; exact (HR.out.stored k _).1, grown_trans HG.out (HR.out.stored k _).2⟩
        case measure => simp [intOf]; omega
      · obtain rfl : k = n := by omega
        go_wp2
        go_ret
        refine ⟨by rw [← HN.out] <;> rfl, ⟨?_, mrk_in l _ (by rw [← HN.out]; exact hl') HI.out⟩, HG.out⟩
        rw [mrk_len, ← HN.out]; exact HR.out
theorem l_heldInt64S (v : Value) (base : Nat) (l : List Int) (w : World) (ho : Own w base v (mrk l l.length)) (hl : l.length ≤ 1000000000) :
    Calls Try.prog 34 #[v, .int .i64 1] w fun e w' => e = .returned (.int .i64 (1 + (l.length : Int))) ∧ w = w' := by
  obtain ⟨a, cap, rfl, hs, _⟩ := ho.sl
  have HS := Lib.hid hs
  have HL := Lib.hid (mrk_len l l.length)
  rw [mrk_len]
  obtain ⟨n, hn⟩ : ∃ n, n = l.length := ⟨_, rfl⟩
  have HN := Lib.hid hn
  rw [← hn] at hl ⊢
  clear hs ho hn
  go_enter Try.func34, Try.ntmps34
  go_wp2
  go_loop [1, 5] (fun m i => ∃ k : Nat, k ≤ n ∧ i = .int .i64 k ∧ m = .int .i64 (1 + (k : Int))) (fun _ i => n - (intOf i).toNat)
  case atStart => exact ⟨0, by omega, rfl, rfl⟩
  case round =>
    obtain ⟨k, hk, rfl, rfl⟩ := hrel
    by_cases hlt : k < n
    · obtain ⟨b, off, rfl, hc⟩ := HS.out.at k (by rw [HL.out, ← HN.out]; exact hlt)
      rw [mrk_gx l k (by rw [← HN.out]; exact hlt)] at hc
      go_wp2
      go_round
      case rel => exact ⟨k + 1, by omega, by go_num, by go_num⟩
      case measure => simp [intOf]; omega
    · obtain rfl : k = n := by omega
      go_wp2
      go_ret
      exact ⟨rfl, rfl⟩
end Go.Proofs.Ytnmlkigpiaekjaa
namespace Go.Proofs.Ytnmlkigpiaekjaa
open Go.RowKit
set_option maxHeartbeats 2000000
set_option linter.unusedVariables false
set_option linter.unusedSimpArgs false
def CopiedO (w : World) (n : Nat) (l : List Int) (e : Ending) (w' : World) : Prop :=
  ∃ g, e = .returned (.slice (some ⟨g, 0, none⟩) n n) ∧ w.heap.size ≤ g ∧ g < w'.heap.size ∧ Own w' w.heap.size (.slice (some ⟨g, 0, none⟩) n n) l ∧ Below w.heap.size w w'
theorem l_toInt64O (a : Option Addr) (n cap : Nat) (l : List Int) (w : World) (hs : Sl w a n l) (hn : n ≤ 1048576) :
    Calls Try.prog 28 #[.slice a n cap] w (CopiedO w n l) := by
  have HS := Lib.hid hs
  have HL := Lib.hid hs.1
  clear hs
  obtain ⟨i0, hi, hz0, hz1, hz2⟩ := info_parts info_i64
  have HI := Lib.hid hi; clear hi
  have HZ0 := Lib.hid hz0; clear hz0
  have HZ1 := Lib.hid hz1; clear hz1
  have HZ2 := Lib.hid hz2; clear hz2
  go_enter Try.func28, Try.ntmps28
  go_wp2_with (refine wpList_make_full _ rfl _ _ _ rfl w.heap.size 2 i0 (.int .i64 0) 1 Try.underlying55 HI.out HZ0.out HZ1.out _ _ _ _ n rfl rfl rfl rfl (by rw [HZ2.out]; omega) (by unfold maxLen; omega) (Nat.le_refl _) ?_; intro w1 hown hgrow)
  have hown' : w1.ownsRow w.heap.size 2 1 (.slice (some ⟨w.heap.size, 0, none⟩) n n) n (part l n 0) := by
    rw [part_zero, ← toList_madeCells_one]; simpa [Value.cells] using hown
  have hb1 : Below w.heap.size w w1 := (Below.refl _ _).grown hgrow (Nat.le_refl _) (by simp)
  have HO := Lib.hid hown'
  have HB := Lib.hid hb1
  clear hown hgrow hown' hb1
  go_loopw [4] (fun i wr => ∃ k : Nat, k ≤ n ∧ i = .int .i64 k ∧ wr.ownsRow w.heap.size 2 1 (.slice (some ⟨w.heap.size, 0, none⟩) n n) n (part l n k) ∧ Below w.heap.size w wr) (fun i _ => n - (intOf i).toNat)
  case atStart => exact ⟨0, by omega, rfl, HO.out, HB.out⟩
  case round =>
    clear HO HB
    obtain ⟨k, hk, rfl, ho, hb⟩ := hrel
    have HO := Lib.hid ho
    have HB := Lib.hid hb
    clear ho hb
    by_cases hlt : k < n
    · obtain ⟨b, off, rfl, hc0⟩ := HS.out.at k hlt
      have hc : wr.cell? ⟨b, off + k, none⟩ = some (.int .i64 (gx l k)) := by rw [HB.out.cell (p := ⟨b, off + k, none⟩) (cell_lt hc0)]; exact hc0
      have ht : wr.cell? ⟨w.heap.size, k, none⟩ = some (.int .i64 0) := by rw [HO.out.cellAt k (by omega)]; exact part_get l n k HL.out hlt
      have hf : wr.frozen? ⟨w.heap.size, k, none⟩ = false := HO.out.frozenAt k
      have HN : Hid ((wr.setCell ⟨w.heap.size, k, none⟩ (.int .i64 (gx l k))).ownsRow w.heap.size 2 1 (.slice (some ⟨w.heap.size, 0, none⟩) n n) n (part l n (k + 1))) := by
        refine Lib.hid ?_
        rw [← part_set l n k HL.out hlt]
        exact (HO.out.stored k _).1
      have HM : Hid (Below w.heap.size w (wr.setCell ⟨w.heap.size, k, none⟩ (.int .i64 (gx l k)))) := Lib.hid (HB.out.setCell (Nat.le_refl _) _)
      clear hc0
      go_wp2
      go_roundw
      case rel => exact ⟨k + 1, by omega, by go_num, HN.out, HM.out⟩
      case measure => simp [intOf]; omega
    · obtain rfl : n = k := by omega
      go_wp2
      go_ret
      have hown := HO.out
      rw [part_full l n HL.out] at hown
      have hlt := hown.lt w.heap.size rfl
      exact ⟨w.heap.size, rfl, Nat.le_refl _, hlt.2, ⟨by rw [HL.out]; exact hown, HS.out.2.2.2⟩, HB.out⟩
/-- marks from K on -/
theorem l_markK (g n cap base : Nat) (K : Int) (l : List Int) (w : World) (ho : Own w base (.slice (some ⟨g, 0, none⟩) n cap) l) (hl : l.length = n) (hn : n ≤ 1000000000) (hK : 0 ≤ K) (hK2 : K ≤ 1000000000) :
    Calls Try.prog 33 #[.slice (some ⟨g, 0, none⟩) n cap, .int .i64 K] w fun e w' => e = .returned (.int .i64 (K + (n : Int))) ∧ w.grownBy w' (some g) := by
  have O1 : Hid (w.ownsRow base 2 1 (.slice (some ⟨g, 0, none⟩) n cap) n (l.map (Value.int .i64))) := Lib.hid (by have := ho.1; rw [hl] at this; exact this)
  have HL := Lib.hid hl
  clear ho hl
  go_enter Try.func33, Try.ntmps33
  go_wp2
  go_loopw [1, 5] (fun m i wr => ∃ (k : Nat) (l' : List Int), k ≤ n ∧ i = .int .i64 k ∧ m = .int .i64 (K + (k : Int)) ∧ l'.length = n ∧ wr.ownsRow base 2 1 (.slice (some ⟨g, 0, none⟩) n cap) n (l'.map (Value.int .i64)) ∧ w.grownBy wr (some g)) (fun _ i _ => n - (intOf i).toNat)
  case atStart => exact ⟨0, l, by omega, rfl, by simp, HL.out, O1.out, ⟨rfl, rfl, rfl, Nat.le_refl _, fun _ _ _ => rfl⟩⟩
  case round =>
    obtain ⟨k, l', hk, rfl, rfl, hl', ho, hg⟩ := hrel
    have HR := Lib.hid ho; have HG := Lib.hid hg; have HL' := Lib.hid hl'
    clear ho hg hl'
    by_cases hlt : k < n
    · obtain ⟨z, hz⟩ : ∃ z, wr.cell? ⟨g, k, none⟩ = some (.int .i64 z) := ⟨_, by rw [HR.out.cellAt k (by omega), List.getElem?_map, List.getElem?_eq_getElem (by rw [HL'.out]; exact hlt)]; rfl⟩
      have hf : wr.frozen? ⟨g, k, none⟩ = false := HR.out.frozenAt k
      have hset : Hid ((l'.map (Value.int .i64)).set k (.int .i64 (K + (k : Int))) = (l'.set k (K + (k : Int))).map (Value.int .i64)) := Lib.hid (by rw [List.map_set])
      have HS2 : Hid ((l'.set k (K + (k : Int))).length = n) := Lib.hid (by rw [List.length_set]; exact HL'.out)
      go_wp2
      go_roundw
      case rel => exact ⟨k + 1, _, by omega, by go_num, by go_num, HS2.out, by rw [← hset.out]; exact (HR.out.stored k _).1, grown_trans HG.out (HR.out.stored k _).2⟩
      case measure => simp [intOf]; omega
    · obtain rfl : k = n := by omega
      go_wp2
      go_ret
      exact ⟨rfl, HG.out⟩
end Go.Proofs.Ytnmlkigpiaekjaa
namespace Go.Proofs.Ytnmlkigpiaekjaa
open Go.RowKit
set_option maxHeartbeats 2000000
set_option linter.unusedVariables false
set_option linter.unusedSimpArgs false
theorem wv_valid {x y : Int} (h1 : -1000000000000 ≤ x) (h2 : x ≤ 1000000000000) (h3 : -1000000000000 ≤ y) (h4 : y ≤ 1000000000000) : wvE x y = 0 ∧ wvL x y = x ∧ wvH x y = y := by
  have e1 := (isVB_iff x).2 ⟨h1, h2⟩
  have e2 := (isVB_iff y).2 ⟨h3, h4⟩
  simp [wvE, wvL, wvH, e1, e2]
end Go.Proofs.Ytnmlkigpiaekjaa
namespace Go.Proofs.Ytnmlkigpiaekjaa
open Go.RowKit
set_option maxHeartbeats 4000000
set_option linter.unusedVariables false
set_option linter.unusedSimpArgs false
/-- what a call leaves in two slots: a box with an interval, and a number -/
def Got (l : List (Nat × Nat × Value)) (w0 : World) (L H E : Int) (s5 s6 : Value) (w : World) : Prop :=
  ∃ g : Nat, s5 = .pointer (some ⟨g, 0, none⟩) ∧ s6 = .int .i64 E ∧ Held ((g, 0, .int .i64 L) :: (g, 1, .int .i64 H) :: l) w0 w
/-- a Bool in a slot -/
def GotB (l : List (Nat × Nat × Value)) (w0 : World) (b : Bool) (s5 : Value) (w : World) : Prop := s5 = .bool b ∧ Held l w0 w
/-- two numbers in slots -/
def Got2 (l : List (Nat × Nat × Value)) (w0 : World) (x y : Int) (s5 s6 : Value) (w : World) : Prop := s5 = .int .i64 x ∧ s6 = .int .i64 y ∧ Held l w0 w
theorem l_eqInterval_same (a b : Int) (w : World) : Calls Try.prog 52 #[.agg #[.int .i64 a, .int .i64 b], .agg #[.int .i64 a, .int .i64 b]] w fun e w' => e = .returned (.bool true) ∧ Later w w' :=
  (l_eqInterval a b a b w).mono fun e w' ⟨h, k⟩ => ⟨h.trans (ret_b (by simp)), k⟩
end Go.Proofs.Ytnmlkigpiaekjaa
namespace Go.Proofs.Ytnmlkigpiaekjaa
open Go.RowKit
set_option maxHeartbeats 4000000
set_option linter.unusedVariables false
set_option linter.unusedSimpArgs false
end Go.Proofs.Ytnmlkigpiaekjaa
namespace Go.Proofs.Ytnmlkigpiaekjaa
open Go.RowKit
set_option maxHeartbeats 4000000
set_option linter.unusedVariables false
set_option linter.unusedSimpArgs false
theorem i_energyAtEnd_nil (p q : Int) (a : Option Addr) (cap : Nat) (w : World) :
    Calls Try.prog 91 #[.agg #[.int .i64 p, .int .i64 q], .slice a 0 cap] w fun e w' => e = .returned (.agg #[.int .i64 p, .int .i64 q]) ∧ Later w w' := by
  go_enter Try.func91, Try.ntmps91
  go_wp2
  refine bodyPost_ret (v := .agg #[.int .i64 p, .int .i64 q]) (by simp [results, Try.results91, go_sem, *]) rfl ⟨rfl, (by repeat (first | (with_reducible exact Later.refl _) | (with_reducible exact Hid.out (by assumption)) | (with_reducible refine Later.alloc ?_ _) | (with_reducible refine Later.setCell ?_ (by simp; omega) _) | (with_reducible refine Later.setCell ?_ (by simp) _) | (with_reducible refine Later.drewN ?_ _) | (with_reducible refine Later.drew ?_) | (with_reducible refine Later.trans ?_ (Hid.out (by assumption)))))⟩
theorem i_energyAtEnd_at (p q : Int) (a : Option Addr) (n cap k : Nat) (l : List Int) (w : World) (hs : Wd w a n 2 l) (hk : n = k + 1) (h24 : n ≤ 24) :
    Calls Try.prog 91 #[.agg #[.int .i64 p, .int .i64 q], .slice a n cap] w fun e w' => e = .returned (.agg #[.int .i64 (gx l (k * 2)), .int .i64 (gx l (k * 2 + 1))]) ∧ Later w w' := by
  obtain ⟨b, o, rfl, h0, h1⟩ := hs.two k (by omega)
  have hn1 : ((n : Int) - 1) = (k : Int) := by omega
  have hn0 : ¬ n = 0 := by omega
  have hnz : ¬ (n : Int) = 0 := by omega
  have hkn : k < n := by omega
  have hb : b < w.heap.size := cell_lt h0
  clear hs hk
  generalize gx l (k * 2) = x at *
  generalize gx l (k * 2 + 1) = y at *
  go_enter Try.func91, Try.ntmps91
  go_wp2_with fail
  refine bodyPost_ret (v := .agg #[.int .i64 x, .int .i64 y]) (by simp [results, Try.results91, go_sem, *]) rfl ⟨rfl, (by repeat (first | (with_reducible exact Later.refl _) | (with_reducible exact Hid.out (by assumption)) | (with_reducible refine Later.alloc ?_ _) | (with_reducible refine Later.setCell ?_ (by simp; omega) _) | (with_reducible refine Later.setCell ?_ (by simp) _) | (with_reducible refine Later.drewN ?_ _) | (with_reducible refine Later.drew ?_) | (with_reducible refine Later.trans ?_ (Hid.out (by assumption)))))⟩
end Go.Proofs.Ytnmlkigpiaekjaa
namespace Go.Proofs.Ytnmlkigpiaekjaa
open Go.RowKit
set_option maxHeartbeats 4000000
set_option linter.unusedVariables false
set_option linter.unusedSimpArgs false
/-- what is known of a train that may enter -/
theorem may_facts {L : List Sg} {F : List Int} {b f h c n : Nat} {y : Sg} {R : List Sg} {p q : Int} (B : Bl L F b f h c n y R) (he : enB p q = true) (hm : meB L F b p q = true) :
    alE R p q c = 0 ∧ enB (p + clL R c) (q + clH R c) = true ∧ (brk y.k = true → 1 ≤ wkL y ∧ q + clH R c ≤ wkL y) := by
  unfold meB okK at hm
  simp at hm
  obtain ⟨_, ⟨h1, _⟩, h2, h3⟩ := hm
  have e1 : loK L F b = ndN R c := by unfold loK; rw [← B.Re, ← B.cn]
  rw [e1] at h2
  have hab := (enB_iff p q).1 he
  have hcl := fun j (hj : j ≤ c) => cl_bd R B.Rok j (by rw [B.Rl]; exact hj)
  have hhi : q ≤ hgK R c ∧ (brk y.k = true → q + clH R c ≤ wkL y) := by
    unfold hiK at h3
    rw [← B.ye, ← B.Re, ← B.cn] at h3
    split at h3
    · exact ⟨by omega, fun _ => by omega⟩
    · rename_i h; exact ⟨h3, fun h' => absurd h' h⟩
  have hal : alE R p q c = 0 := by
    unfold alE
    rw [fstB_zero]
    intro k hk
    unfold cdK codE
    have g1 := ndN_ge R c k hk
    have g2 := hgK_at R c k hk
    rw [if_neg (by omega), if_pos (by omega)]
  refine ⟨hal, ?_, fun hb => ⟨?_, hhi.2 hb⟩⟩
  · rw [enB_iff]
    have g1 := ndN_end R c
    have g2 := hgK_end R c
    have g3 := hcl c (Nat.le_refl _)
    omega
  · unfold slowB at h1
    rw [← B.ye, hb] at h1
    simpa using h1
/-- the last energy of a run -/
theorem fl_last (R : List Sg) (p q : Int) (c : Nat) : gx (flF R p q (c + 1)) (c * 2) = p + clL R (c + 1) ∧ gx (flF R p q (c + 1)) (c * 2 + 1) = q + clH R (c + 1) := by
  have hl := flF_len R p q c
  rw [flF_succ]
  refine ⟨?_, ?_⟩
  · unfold gx; simp [List.getElem?_append, hl]
  · unfold gx; simp [List.getElem?_append, hl] <;> (try rw [if_neg (by omega)]) <;> (try simp [show c * 2 + 1 - c * 2 = 1 by omega])
theorem s72 {g g' : Nat} {v0 v1 v2 v3 v4 v5 v6 u0 u1 : Value} {w0 w w' : World} (h : Fr g [v0, v1, v2, v3, v4, v5, v6] w) (h' : Fr g' [u0, u1] w) (hl : Later w0 w) (k : Later w w') :
    (w'.cell? ⟨g, 0, none⟩ = some v0 ∧ w'.cell? ⟨g, 1, none⟩ = some v1 ∧ w'.cell? ⟨g, 2, none⟩ = some v2 ∧ w'.cell? ⟨g, 3, none⟩ = some v3 ∧ w'.cell? ⟨g, 4, none⟩ = some v4 ∧ w'.cell? ⟨g, 5, none⟩ = some v5 ∧ w'.cell? ⟨g, 6, none⟩ = some v6) ∧ w'.cell? ⟨g', 0, none⟩ = some u0 ∧ w'.cell? ⟨g', 1, none⟩ = some u1 ∧ Later w0 w' := by
  obtain ⟨a0, a1, a2, a3, a4, a5, a6, _⟩ := Fr.o7 (fr_later h k)
  obtain ⟨b0, b1, _⟩ := Fr.o2 (fr_later h' k)
  exact ⟨⟨a0, a1, a2, a3, a4, a5, a6⟩, b0, b1, hl.trans k⟩
set_option maxRecDepth 100000 in
theorem i_stopInHolding (a : Option Addr) (n cap : Nat) (L : List Sg) (F : List Int) (b : Nat) (p q : Int) (w : World) (hs : Sgs w a n L) (hcn : n ≤ cap) (hv : layB L = true) (hk : bkC L F = true) (hb : b < F.length) (he : enB p q = true) (hm : meB L F b p q = true) :
    Calls Try.prog 64 #[.agg #[.slice a n cap], scV (sec L F b), .agg #[.int .i64 p, .int .i64 q]] w fun e w' => e = .returned (.int .i64 (sbH L F b q)) ∧ Later w w' := by
  obtain ⟨f, h, c, y, R, hB⟩ := bl_of hv hk hb hs.1
  have HSC : scV (sec L F b) = .agg #[.int .i64 b, .int .i64 f, .int .i64 h, .int .i64 (stK L F b), .int .i64 (lnK L F b)] := by
    unfold scV sec; rw [hB.end', hB.fe]; simp
  rw [HSC]
  have HS := Lib.hid hs; have HB := Lib.hid hB
  have hfh := hB.le; have hhn := hB.lt; have h24 := hB.n24
  have hch : c = h - f := hB.ce
  obtain ⟨m1, m2, m3⟩ := may_facts hB he hm
  have hcI : (h : Int) - f = (c : Int) := by omega
  have hsg : sgE L (f : Int) (c : Int) = 0 := by unfold sgE; rw [if_pos hv, if_pos]; have := hs.1; omega
  have eR : runS L f c = R := by rw [hB.Re, hB.fe, hB.cn]; rfl
  obtain ⟨n1, n2, n3⟩ := ea_fin he hsg (by rw [eR]; exact m1)
  rw [eR] at n3
  have HEA := fun w (h : Sgs w a n L) => i_EnergyAlong a n cap L (f : Int) (c : Int) p q w h
  unfold GivesI at HEA
  rw [n1, n2, n3, ← hcI] at HEA
  have HSB : Hid (sbH L F b q = if brk y.k = true then cei ((q + clH R c) * y.l) (wkL y) else y.l) := Lib.hid (by unfold sbH; rw [← hB.ye, ← hB.Re, ← hB.cn])
  have HSD := i_StoppingDistance y (p + clL R c) (q + clH R c)
  have hyk := hB.yk
  generalize stK L F b = st
  generalize lnK L F b = ln
  clear hs hB HSC hv hk n1 n2 n3 m1 hsg
  go_enter Try.func64, Try.ntmps64
  go_upto_region 1 with (fail)
  refine into (fun W => Held [(w.heap.size + 1, 0, .int .i64 b), (w.heap.size + 1, 1, .int .i64 f), (w.heap.size + 1, 2, .int .i64 h), (w.heap.size + 1, 3, .int .i64 st), (w.heap.size + 1, 4, .int .i64 ln), (w.heap.size, 0, .slice a n cap)] w W ∧ Fr (w.heap.size + 1 + 1) [.int .i64 p, .int .i64 q] W) ⟨?_, ?_⟩ ?_
  · exact (held_box (held_box (held_start w) w.heap.size [.slice a n cap] _ rfl) (w.heap.size + 1) [.int .i64 b, .int .i64 f, .int .i64 h, .int .i64 st, .int .i64 ln] _ (by simp)).alloc _
  · have F1 := fr_alloc (X := (w.alloc (.cells [Value.slice a n cap].toArray 26)).alloc (.cells [Value.int .i64 b, .int .i64 f, .int .i64 h, .int .i64 st, .int .i64 ln].toArray 98)) (l := [.int .i64 p, .int .i64 q]) (T := 28) (Later.refl _)
    simp only [World.size_alloc] at F1
    exact F1
  rintro W ⟨hW, hF⟩
  obtain ⟨u1, u2, u3, u4, u5, u6, _⟩ := Held.s6 hW
  obtain ⟨r1, r2, r3, r4⟩ := Fr.o2 hF
  have z1 := hW.lt (w.heap.size + 1) 0 (.int .i64 b) (by simp)
  have z0 := hW.lt w.heap.size 0 (.slice a n cap) (by simp)
  have z2 := hF.lt
  have HW := Lib.hid hW.is
  have FW := Lib.hid hF
  obtain ⟨b0, o0, rfl, hb0, hc7⟩ := (HS.out.later hW.is).at h hhn
  obtain ⟨c0, c1, c2, c3, c4, c5, c6⟩ := hc7
  rw [show sx L h = y by rw [HB.out.ye, HB.out.he]; rfl] at c0 c1 c2 c3 c4 c5 c6
  clear hW hF
  rcases hyk with k1 | k1
  · have hbk : brk y.k = false := by rw [brk_no]; omega
    have e1 : Hid (sbH L F b q = y.l) := Lib.hid (by rw [HSB.out, hbk]; rfl)
    have hk1 : (y.k == 1) = true := by simpa using k1
    clear k1 hbk
    go_wp2_with fail
    go_ret
    exact ⟨ret_i64 e1.out.symm, (by repeat (first | (with_reducible exact Later.refl _) | (with_reducible exact Hid.out (by assumption)) | (with_reducible refine Later.alloc ?_ _) | (with_reducible refine Later.setCell ?_ (by simp; omega) _) | (with_reducible refine Later.setCell ?_ (by simp) _) | (with_reducible refine Later.drewN ?_ _) | (with_reducible refine Later.drew ?_) | (with_reducible refine Later.trans ?_ (Hid.out (by assumption)))))⟩
  · have hbk : brk y.k = true := by rw [brk_iff]; exact k1
    obtain ⟨w1, w2⟩ := m3 hbk
    have hk1 : (y.k == 1) = false := by simp; omega
    have hsl : slE y = 0 := by
      have eb : brE y = 0 := by unfold brE; rw [if_pos HB.out.ysg, if_pos hbk]
      unfold slE; rw [if_pos eb, if_pos w1]
    have ed : dsE y (p + clL R c) (q + clH R c) = 0 := by unfold dsE; rw [if_pos m2, hsl]
    have eh : dsH y (p + clL R c) (q + clH R c) = cei ((q + clH R c) * y.l) (wkL y) := by unfold dsH; rw [ed]; rfl
    have e1 : Hid (sbH L F b q = cei ((q + clH R c) * y.l) (wkL y)) := Lib.hid (by rw [HSB.out, if_pos hbk])
    rw [ed, eh] at HSD
    generalize cei ((q + clH R c) * y.l) (wkL y) = D at *
    generalize dsL y (p + clL R c) (q + clH R c) = D0 at *
    clear k1 hbk w1 w2 hsl ed eh m2 m3
    have hwrp : IntKind.i64.wrap ((h : Int) - f) = (h : Int) - f := IntWalk.i64_in _ ⟨by omega, by omega⟩
    go_upto_region 2 with (fail)
    refine into (fun W1 => Fr W.heap.size [.int .i64 y.k, .int .i64 y.l, .int .i64 y.r, .int .i64 y.a, .int .i64 y.b, .int .i64 y.c, .int .i64 y.d] W1 ∧ Fr (w.heap.size + 1 + 1) [.int .i64 p, .int .i64 q] W1 ∧ Later W W1) ⟨fr_alloc (l := [.int .i64 y.k, .int .i64 y.l, .int .i64 y.r, .int .i64 y.a, .int .i64 y.b, .int .i64 y.c, .int .i64 y.d]) (Later.refl _), fr_later FW.out (by repeat (first | (with_reducible exact Later.refl _) | (with_reducible exact Hid.out (by assumption)) | (with_reducible refine Later.alloc ?_ _) | (with_reducible refine Later.setCell ?_ (by simp; omega) _) | (with_reducible refine Later.setCell ?_ (by simp) _) | (with_reducible refine Later.drewN ?_ _) | (with_reducible refine Later.drew ?_) | (with_reducible refine Later.trans ?_ (Hid.out (by assumption))))), (by repeat (first | (with_reducible exact Later.refl _) | (with_reducible exact Hid.out (by assumption)) | (with_reducible refine Later.alloc ?_ _) | (with_reducible refine Later.setCell ?_ (by simp; omega) _) | (with_reducible refine Later.setCell ?_ (by simp) _) | (with_reducible refine Later.drewN ?_ _) | (with_reducible refine Later.drew ?_) | (with_reducible refine Later.trans ?_ (Hid.out (by assumption)))))⟩ ?_
    rintro W1 ⟨fy, fe, hW1⟩
    have FY := Lib.hid fy; have FE := Lib.hid fe; have HW1 : Hid (Later w W1) := Lib.hid (HW.out.trans hW1)
    obtain ⟨y0, y1, y2, y3, y4, y5, y6, _⟩ := Fr.o7 fy
    obtain ⟨p0, p1, _⟩ := Fr.o2 fe
    have d0 : W1.cell? ⟨w.heap.size, 0, none⟩ = some (.slice (some ⟨b0, o0, none⟩) n cap) := (hW1.cell (p := ⟨w.heap.size, 0, none⟩) z0).trans u6
    have d1 : W1.cell? ⟨w.heap.size + 1, 1, none⟩ = some (.int .i64 f) := (hW1.cell (p := ⟨w.heap.size + 1, 1, none⟩) z1).trans u2
    have d2 : W1.cell? ⟨w.heap.size + 1, 2, none⟩ = some (.int .i64 h) := (hW1.cell (p := ⟨w.heap.size + 1, 2, none⟩) z1).trans u3
    clear fy fe hW1 FW c0 c1 c2 c3 c4 c5 c6 u1 u2 u3 u4 u5 u6 r1 r2 r3 r4
    rcases Nat.eq_zero_or_pos c with hc0 | hc0
    · subst hc0
      rw [clL_0, clH_0, Int.add_zero, Int.add_zero] at HSD
      clear hcI hch eR
      go_upto_region 5 with (first | (go_at_call 11; refine (HEA _ (HS.out.later (HW1.out.trans (by repeat (first | (with_reducible exact Later.refl _) | (with_reducible exact Hid.out (by assumption)) | (with_reducible refine Later.alloc ?_ _) | (with_reducible refine Later.setCell ?_ (by simp; omega) _) | (with_reducible refine Later.setCell ?_ (by simp) _) | (with_reducible refine Later.drewN ?_ _) | (with_reducible refine Later.drew ?_) | (with_reducible refine Later.trans ?_ (Hid.out (by assumption)))))))).mono ?_; rintro e w6 ⟨v, rfl, ho, hb⟩; obtain ⟨ea, ec, rfl, hec, hwd, _⟩ := ho.wd; have WD := Lib.hid hwd; have H6 : Hid (Later W1 w6) := Lib.hid (Later.trans (by repeat (first | (with_reducible exact Later.refl _) | (with_reducible exact Hid.out (by assumption)) | (with_reducible refine Later.alloc ?_ _) | (with_reducible refine Later.setCell ?_ (by simp; omega) _) | (with_reducible refine Later.setCell ?_ (by simp) _) | (with_reducible refine Later.drewN ?_ _) | (with_reducible refine Later.drew ?_) | (with_reducible refine Later.trans ?_ (Hid.out (by assumption))))) hb); clear hb ho hwd))
      have hl6 : Later W1 _ := show Later W1 w6 from H6.out
      have FY6 := Lib.hid (fr_later FY.out H6.out); have FE6 := Lib.hid (fr_later FE.out H6.out); have HW6 : Hid (Later w w6) := Lib.hid (HW1.out.trans H6.out)
      have hz6 := HW6.out.size
      have hy6 := FY6.out.lt
      clear hl6 FY FE H6
      go_region_held3 (fun w' => (w'.cell? ⟨W.heap.size, 0, none⟩ = some (.int .i64 y.k) ∧ w'.cell? ⟨W.heap.size, 1, none⟩ = some (.int .i64 y.l) ∧ w'.cell? ⟨W.heap.size, 2, none⟩ = some (.int .i64 y.r) ∧ w'.cell? ⟨W.heap.size, 3, none⟩ = some (.int .i64 y.a) ∧ w'.cell? ⟨W.heap.size, 4, none⟩ = some (.int .i64 y.b) ∧ w'.cell? ⟨W.heap.size, 5, none⟩ = some (.int .i64 y.c) ∧ w'.cell? ⟨W.heap.size, 6, none⟩ = some (.int .i64 y.d)) ∧ w'.cell? ⟨w.heap.size + 1 + 1, 0, none⟩ = some (.int .i64 p) ∧ w'.cell? ⟨w.heap.size + 1 + 1, 1, none⟩ = some (.int .i64 q) ∧ Later w w') (exact s72 FY6.out FE6.out HW6.out (by repeat (first | (with_reducible exact Later.refl _) | (with_reducible exact Hid.out (by assumption)) | (with_reducible refine Later.alloc ?_ _) | (with_reducible refine Later.setCell ?_ (by simp; omega) _) | (with_reducible refine Later.setCell ?_ (by simp) _) | (with_reducible refine Later.drewN ?_ _) | (with_reducible refine Later.drew ?_) | (with_reducible refine Later.trans ?_ (Hid.out (by assumption))))))
        (first
          | (go_at_call 91; refine (i_energyAtEnd_nil p q _ _ _).mono ?_; rintro e w8 ⟨rfl, hb⟩; have H8 := Lib.hid hb; have hs8 := hb.size; (try simp at hs8); (first | (have F := fr_alloc hb; obtain ⟨f1, f2, f3, f4⟩ := Fr.o2 F) | (have F := fr_alloc_drew hb; obtain ⟨f1, f2, f3, f4⟩ := Fr.o2 F) | (have F := fr_later (by assumption) hb; obtain ⟨f1, f2, f3, f4⟩ := Fr.o2 F) | skip); clear hb)
          | (go_at_call 90; refine (HSD _).mono ?_; rintro e w7 ⟨rfl, hb⟩; have H7 := Lib.hid hb; have hs7 := hb.size; (try simp at hs7); (first | (have F := fr_alloc hb; obtain ⟨f1, f2, f3, f4⟩ := Fr.o2 F) | (have F := fr_alloc_drew hb; obtain ⟨f1, f2, f3, f4⟩ := Fr.o2 F) | (have F := fr_later (by assumption) hb; obtain ⟨f1, f2, f3, f4⟩ := Fr.o2 F) | skip); clear hb))
      all_goals
        go_wp2_with fail
        go_ret
        exact ⟨ret_i64 e1.out.symm, (by repeat (first | (with_reducible exact Later.refl _) | (with_reducible exact HW6.out) | (with_reducible refine Later.setCell ?_ (by simp <;> omega) _) | (with_reducible refine Later.drew ?_) | (with_reducible refine Later.drewN ?_ _) | (with_reducible refine Later.alloc ?_ _) | (with_reducible refine Later.trans ?_ (Hid.out (by assumption)))))⟩
    · obtain ⟨k, rfl⟩ : ∃ k, c = k + 1 := ⟨c - 1, by omega⟩
      have fl := fl_last R p q k
      obtain ⟨N, hN⟩ : ∃ N, N = k + 1 := ⟨_, rfl⟩
      rw [← hN] at HEA HSD fl
      have hNk := hN
      clear hN
      have hkN : k < N := by omega
      have hN1 : ((N : Nat) : Int) - 1 = (k : Int) := by omega
      have hN0 : 0 < N := by omega
      have hN24 : N ≤ 24 := by omega
      obtain ⟨fl1, fl2⟩ := fl
      generalize flF R p q N = E at *
      generalize p + clL R N = P at *
      generalize q + clH R N = Q at *
      have HEE := fun a ec W (h : Wd W a N 2 E) => i_energyAtEnd_at p q a N ec k E W h hNk hN24
      rw [fl1, fl2] at HEE
      clear hcI hch eR HB hNk
      go_upto_region 5 with (first | (go_at_call 11; refine (HEA _ (HS.out.later (HW1.out.trans (by repeat (first | (with_reducible exact Later.refl _) | (with_reducible exact Hid.out (by assumption)) | (with_reducible refine Later.alloc ?_ _) | (with_reducible refine Later.setCell ?_ (by simp; omega) _) | (with_reducible refine Later.setCell ?_ (by simp) _) | (with_reducible refine Later.drewN ?_ _) | (with_reducible refine Later.drew ?_) | (with_reducible refine Later.trans ?_ (Hid.out (by assumption)))))))).mono ?_; rintro e w6 ⟨v, rfl, ho, hb⟩; obtain ⟨ea, ec, rfl, hec, hwd, _⟩ := ho.wd; have WD := Lib.hid hwd; have H6 : Hid (Later W1 w6) := Lib.hid (Later.trans (by repeat (first | (with_reducible exact Later.refl _) | (with_reducible exact Hid.out (by assumption)) | (with_reducible refine Later.alloc ?_ _) | (with_reducible refine Later.setCell ?_ (by simp; omega) _) | (with_reducible refine Later.setCell ?_ (by simp) _) | (with_reducible refine Later.drewN ?_ _) | (with_reducible refine Later.drew ?_) | (with_reducible refine Later.trans ?_ (Hid.out (by assumption))))) hb); clear hb ho hwd))
      have hl6 : Later W1 _ := show Later W1 w6 from H6.out
      have FY6 := Lib.hid (fr_later FY.out H6.out); have FE6 := Lib.hid (fr_later FE.out H6.out); have HW6 : Hid (Later w w6) := Lib.hid (HW1.out.trans H6.out)
      have hz6 := HW6.out.size
      have hy6 := FY6.out.lt
      clear hl6 FY FE H6
      go_region_held3 (fun w' => (w'.cell? ⟨W.heap.size, 0, none⟩ = some (.int .i64 y.k) ∧ w'.cell? ⟨W.heap.size, 1, none⟩ = some (.int .i64 y.l) ∧ w'.cell? ⟨W.heap.size, 2, none⟩ = some (.int .i64 y.r) ∧ w'.cell? ⟨W.heap.size, 3, none⟩ = some (.int .i64 y.a) ∧ w'.cell? ⟨W.heap.size, 4, none⟩ = some (.int .i64 y.b) ∧ w'.cell? ⟨W.heap.size, 5, none⟩ = some (.int .i64 y.c) ∧ w'.cell? ⟨W.heap.size, 6, none⟩ = some (.int .i64 y.d)) ∧ w'.cell? ⟨w.heap.size + 1 + 1, 0, none⟩ = some (.int .i64 p) ∧ w'.cell? ⟨w.heap.size + 1 + 1, 1, none⟩ = some (.int .i64 q) ∧ Later w w') (exact s72 FY6.out FE6.out HW6.out (by repeat (first | (with_reducible exact Later.refl _) | (with_reducible exact Hid.out (by assumption)) | (with_reducible refine Later.alloc ?_ _) | (with_reducible refine Later.setCell ?_ (by simp; omega) _) | (with_reducible refine Later.setCell ?_ (by simp) _) | (with_reducible refine Later.drewN ?_ _) | (with_reducible refine Later.drew ?_) | (with_reducible refine Later.trans ?_ (Hid.out (by assumption))))))
        (first
          | (go_at_call 91; refine (HEE _ _ _ (WD.out.later (by repeat (first | (with_reducible exact Later.refl _) | (with_reducible exact Hid.out (by assumption)) | (with_reducible refine Later.alloc ?_ _) | (with_reducible refine Later.setCell ?_ (by simp; omega) _) | (with_reducible refine Later.setCell ?_ (by simp) _) | (with_reducible refine Later.drewN ?_ _) | (with_reducible refine Later.drew ?_) | (with_reducible refine Later.trans ?_ (Hid.out (by assumption))))))).mono ?_; rintro e w8 ⟨rfl, hb⟩; have H8 := Lib.hid hb; have hs8 := hb.size; (try simp at hs8); (first | (have F := fr_alloc hb; obtain ⟨f1, f2, f3, f4⟩ := Fr.o2 F) | (have F := fr_alloc_drew hb; obtain ⟨f1, f2, f3, f4⟩ := Fr.o2 F) | (have F := fr_later (by assumption) hb; obtain ⟨f1, f2, f3, f4⟩ := Fr.o2 F) | skip); clear hb)
          | (go_at_call 90; refine (HSD _).mono ?_; rintro e w7 ⟨rfl, hb⟩; have H7 := Lib.hid hb; have hs7 := hb.size; (try simp at hs7); (first | (have F := fr_alloc hb; obtain ⟨f1, f2, f3, f4⟩ := Fr.o2 F) | (have F := fr_alloc_drew hb; obtain ⟨f1, f2, f3, f4⟩ := Fr.o2 F) | (have F := fr_later (by assumption) hb; obtain ⟨f1, f2, f3, f4⟩ := Fr.o2 F) | skip); clear hb))
      all_goals
        go_wp2_with fail
        go_ret
        exact ⟨ret_i64 e1.out.symm, (by repeat (first | (with_reducible exact Later.refl _) | (with_reducible exact HW6.out) | (with_reducible refine Later.setCell ?_ (by simp <;> omega) _) | (with_reducible refine Later.drew ?_) | (with_reducible refine Later.drewN ?_ _) | (with_reducible refine Later.alloc ?_ _) | (with_reducible refine Later.trans ?_ (Hid.out (by assumption)))))⟩
theorem sbH_bd {L : List Sg} {F : List Int} {b f h c n : Nat} {y : Sg} {R : List Sg} {p q : Int} (B : Bl L F b f h c n y R) (he : enB p q = true) (hm : meB L F b p q = true) : -4000000000000000 ≤ sbH L F b q ∧ sbH L F b q ≤ 4000000000000000 := by
  obtain ⟨_, m2, m3⟩ := may_facts B he hm
  have hl := ((sgB_iff y).1 B.ysg).2.1
  have he2 := (enB_iff _ _).1 m2
  have hw := wk_bd y B.ysg
  unfold sbH
  rw [← B.ye, ← B.Re, ← B.cn]
  split
  · rename_i hb
    have h1 := (m3 hb).1
    have hn := nn_mul (q + clH R c) y.l (by omega) (by omega) hl.1 hl.2
    rw [cei_nn _ _ hn.1 (by omega)]
    exact tdiv_bd _ _ 4000000000000000 (by omega) (by omega)
  · omega
theorem lnK_bd {L : List Sg} {F : List Int} {b f h c n : Nat} {y : Sg} {R : List Sg} (B : Bl L F b f h c n y R) (hn : L.length = n) : upL L h - upL L f + y.l = lnK L F b ∧ 0 ≤ lnK L F b ∧ lnK L F b ≤ 5000000 := by
  have e1 : lnK L F b = upL L (h + 1) - upL L f := by unfold lnK; rw [B.end', B.fe]
  have e2 := upL_succ L h (by have := B.lt; omega)
  rw [show sx L h = y by rw [B.ye, B.he]; rfl] at e2
  have hf := up_bd L f (by have := B.le; have := B.lt; omega) (okB_le L L.length f (by have := B.le; have := B.lt; omega) B.ok)
  have hh := up_bd L (h + 1) (by have := B.lt; omega) (okB_le L L.length (h + 1) (by have := B.lt; omega) B.ok)
  have hm := upL_mono L f (h + 1) (by have := B.le; omega) (by have := B.lt; omega) B.ok
  have h24 := B.n24; have hlt := B.lt
  omega
end Go.Proofs.Ytnmlkigpiaekjaa
namespace Go.Proofs.Ytnmlkigpiaekjaa
open Go.RowKit
set_option maxHeartbeats 4000000
set_option linter.unusedVariables false
set_option linter.unusedSimpArgs false
theorem meE_in {L : List Sg} {F : List Int} {p x y : Int} (h : meE L F p x y = 0) : enB x y = true ∧ fndE L F (isNo p) = 0 := by
  unfold meE at h
  cases he : enB x y
  · rw [he] at h; cases h
  · rw [he] at h; exact ⟨rfl, h⟩
set_option maxRecDepth 100000 in
theorem i_StopBound (a : Option Addr) (n cap : Nat) (L : List Sg) (A : Option Addr) (m capF : Nat) (F : List Int) (p x y : Int) (w : World) (hs : Sgs w a n L) (hf : Sl w A m F) (hcn : n ≤ cap) (hcF : m ≤ capF) :
    Calls Try.prog 29 #[.agg #[.slice a n cap], .slice A m capF, .int .i64 p, .agg #[.int .i64 x, .int .i64 y]] w fun e w' => e = .returned (.tuple #[.int .i64 (sbV L F p x y), .int .i64 (sbE L F p x y)]) ∧ Later w w' := by
  have HM := fun w h1 h2 => i_MayEnter a n cap L A m capF F p x y w h1 h2 hcn hcF
  have HC := fun w h1 h2 => i_sectionNumbered a n cap L A m capF F p w h1 h2 hcn hcF
  have HS := Lib.hid hs; have HF := Lib.hid hf
  by_cases h0 : meE L F p x y = 0
  · cases hb0 : meB L F p x y
    · have e1 : Hid (sbE L F p x y = 5) := Lib.hid (by unfold sbE; rw [if_pos h0, hb0]; rfl)
      have e2 : Hid (sbV L F p x y = 0) := Lib.hid (by unfold sbV; rw [e1.out]; rfl)
      rw [h0, hb0] at HM
      clear hs hf h0 hb0
      go_enter Try.func29, Try.ntmps29
      go_wp2_with (go_at_call 62; refine (HM _ (HS.out.later (by repeat (first | (with_reducible exact Later.refl _) | (with_reducible exact Hid.out (by assumption)) | (with_reducible refine Later.alloc ?_ _) | (with_reducible refine Later.setCell ?_ (by simp; omega) _) | (with_reducible refine Later.setCell ?_ (by simp) _) | (with_reducible refine Later.drewN ?_ _) | (with_reducible refine Later.drew ?_) | (with_reducible refine Later.trans ?_ (Hid.out (by assumption)))))) (HF.out.later (by repeat (first | (with_reducible exact Later.refl _) | (with_reducible exact Hid.out (by assumption)) | (with_reducible refine Later.alloc ?_ _) | (with_reducible refine Later.setCell ?_ (by simp; omega) _) | (with_reducible refine Later.setCell ?_ (by simp) _) | (with_reducible refine Later.drewN ?_ _) | (with_reducible refine Later.drew ?_) | (with_reducible refine Later.trans ?_ (Hid.out (by assumption))))))).mono ?_; rintro e w1 ⟨rfl, hb⟩; obtain ⟨H, hcc, hff, hzz⟩ := later_facts hb; clear hb; (try simp at hzz))
      go_ret2
      exact ⟨ret_2i e2.out.symm e1.out.symm, (by repeat (first | (with_reducible exact Later.refl _) | (with_reducible exact Hid.out (by assumption)) | (with_reducible refine Later.alloc ?_ _) | (with_reducible refine Later.setCell ?_ (by simp; omega) _) | (with_reducible refine Later.setCell ?_ (by simp) _) | (with_reducible refine Later.drewN ?_ _) | (with_reducible refine Later.drew ?_) | (with_reducible refine Later.trans ?_ (Hid.out (by assumption)))))⟩
    · obtain ⟨he, hf0⟩ := meE_in h0
      have e1 : Hid (sbE L F p x y = 0) := Lib.hid (by unfold sbE; rw [if_pos h0, hb0]; rfl)
      rw [h0, hb0] at HM
      obtain ⟨b, rfl, hbl, hv, hk, hsec⟩ := isNo_cases hf0
      rw [hf0, hsec] at HC
      obtain ⟨f, h, c, z, R, hB⟩ := bl_of hv hk hbl hs.1
      have HT := fun w (h1 : Sgs w a n L) => i_stopInHolding a n cap L F b x y w h1 hcn hv hk hbl he hb0
      have hbd := sbH_bd hB he hb0
      obtain ⟨l1, l2, l3⟩ := lnK_bd hB hs.1
      have e2 : Hid (sbV L F b x y = lnK L F b - z.l + sbH L F b y) := Lib.hid (by unfold sbV; rw [e1.out, ← l1]; show upL L (hoK L F b) - upL L (fstK F b) + sbH L F b y = _; rw [← hB.he, ← hB.fe]; omega)
      have hzl := ((sgB_iff z).1 hB.ysg).2.1
      have HSC : scV (sec L F b) = .agg #[.int .i64 b, .int .i64 f, .int .i64 h, .int .i64 (stK L F b), .int .i64 (lnK L F b)] := by
        unfold scV sec; rw [hB.end', hB.fe]; simp
      rw [HSC] at HC HT
      have HB := Lib.hid hB
      have hhn := hB.lt; have h24 := hB.n24
      generalize sbH L F b y = D at *
      generalize stK L F b = st at *
      generalize lnK L F b = ln at *
      clear hs hf h0 hb0 hf0 hsec hB HSC hv hk he l1
      go_enter Try.func29, Try.ntmps29
      go_upto_region 1 with (fail)
      refine into (Held [(w.heap.size + 1, 0, .int .i64 x), (w.heap.size + 1, 1, .int .i64 y), (w.heap.size, 0, .slice a n cap)] w) (held_box (held_box (held_start w) w.heap.size [.slice a n cap] _ rfl) (w.heap.size + 1) [.int .i64 x, .int .i64 y] _ (by simp)) ?_
      intro W hW
      obtain ⟨k0, k1, k2, _⟩ := Held.s3 hW
      have z0 := hW.lt w.heap.size 0 (.slice a n cap) (by simp)
      have z1 := hW.lt (w.heap.size + 1) 0 (.int .i64 x) (by simp)
      have HW := Lib.hid hW
      clear hW
      go_wp2_with (first
          | (go_at_call 62; refine (HM _ (HS.out.later (HW.out.is.trans (by repeat (first | (with_reducible exact Later.refl _) | (with_reducible exact Hid.out (by assumption)) | (with_reducible refine Later.alloc ?_ _) | (with_reducible refine Later.setCell ?_ (by simp; omega) _) | (with_reducible refine Later.setCell ?_ (by simp) _) | (with_reducible refine Later.drewN ?_ _) | (with_reducible refine Later.drew ?_) | (with_reducible refine Later.trans ?_ (Hid.out (by assumption))))))) (HF.out.later (HW.out.is.trans (by repeat (first | (with_reducible exact Later.refl _) | (with_reducible exact Hid.out (by assumption)) | (with_reducible refine Later.alloc ?_ _) | (with_reducible refine Later.setCell ?_ (by simp; omega) _) | (with_reducible refine Later.setCell ?_ (by simp) _) | (with_reducible refine Later.drewN ?_ _) | (with_reducible refine Later.drew ?_) | (with_reducible refine Later.trans ?_ (Hid.out (by assumption)))))))).mono ?_; rintro e w1 ⟨rfl, hb⟩; have H1 : Hid (Later W w1) := Lib.hid (Later.trans (by repeat (first | (with_reducible exact Later.refl _) | (with_reducible exact Hid.out (by assumption)) | (with_reducible refine Later.alloc ?_ _) | (with_reducible refine Later.setCell ?_ (by simp; omega) _) | (with_reducible refine Later.setCell ?_ (by simp) _) | (with_reducible refine Later.drewN ?_ _) | (with_reducible refine Later.drew ?_) | (with_reducible refine Later.trans ?_ (Hid.out (by assumption))))) hb); obtain ⟨H, hcc, hff, hzz⟩ := later_facts hb; clear hb; (try simp only [World.size_alloc] at hzz); have hy0 : w.heap.size < w1.heap.size := (by omega); have hy1 : w.heap.size + 1 < w1.heap.size := (by omega))
          | (go_at_call 63; refine (HC _ (HS.out.later (HW.out.is.trans (by repeat (first | (with_reducible exact Later.refl _) | (with_reducible exact Hid.out (by assumption)) | (with_reducible refine Later.alloc ?_ _) | (with_reducible refine Later.setCell ?_ (by simp; omega) _) | (with_reducible refine Later.setCell ?_ (by simp) _) | (with_reducible refine Later.drewN ?_ _) | (with_reducible refine Later.drew ?_) | (with_reducible refine Later.trans ?_ (Hid.out (by assumption))))))) (HF.out.later (HW.out.is.trans (by repeat (first | (with_reducible exact Later.refl _) | (with_reducible exact Hid.out (by assumption)) | (with_reducible refine Later.alloc ?_ _) | (with_reducible refine Later.setCell ?_ (by simp; omega) _) | (with_reducible refine Later.setCell ?_ (by simp) _) | (with_reducible refine Later.drewN ?_ _) | (with_reducible refine Later.drew ?_) | (with_reducible refine Later.trans ?_ (Hid.out (by assumption)))))))).mono ?_; rintro e w2 ⟨rfl, hb⟩; have H2 : Hid (Later W w2) := Lib.hid (H1.out.trans hb); obtain ⟨H, hcc, hff, hzz⟩ := later_facts hb; clear hb; (try simp only [World.size_alloc] at hzz); have hy0 : w.heap.size < w2.heap.size := (by omega); have hy1 : w.heap.size + 1 < w2.heap.size := (by omega)))
      have h8 : Held [(w2.heap.size, 0, .int .i64 b), (w2.heap.size, 1, .int .i64 f), (w2.heap.size, 2, .int .i64 h), (w2.heap.size, 3, .int .i64 st), (w2.heap.size, 4, .int .i64 ln), (w.heap.size + 1, 0, .int .i64 x), (w.heap.size + 1, 1, .int .i64 y), (w.heap.size, 0, .slice a n cap)] w (w2.alloc (.cells #[.int .i64 b, .int .i64 f, .int .i64 h, .int .i64 st, .int .i64 ln] 98)) := held_box (HW.out.later H2.out) w2.heap.size [.int .i64 b, .int .i64 f, .int .i64 h, .int .i64 st, .int .i64 ln] _ rfl
      obtain ⟨b0, o0, rfl, _, hc7⟩ := (HS.out.later h8.is).at h hhn
      have c1 := hc7.2.1
      rw [show sx L h = z by rw [HB.out.ye, HB.out.he]; rfl] at c1
      have h9 := held_more h8 b0 (o0 + h * 7 + 1) _ c1 (sg_cell_lt c1)
      refine into (Held ((b0, o0 + h * 7 + 1, .int .i64 z.l) :: [(w2.heap.size, 0, .int .i64 b), (w2.heap.size, 1, .int .i64 f), (w2.heap.size, 2, .int .i64 h), (w2.heap.size, 3, .int .i64 st), (w2.heap.size, 4, .int .i64 ln), (w.heap.size + 1, 0, .int .i64 x), (w.heap.size + 1, 1, .int .i64 y), (w.heap.size, 0, .slice (some ⟨b0, o0, none⟩) n cap)]) w) (by repeat (first | exact h9 | refine Held.drew ?_ | refine Held.drewN ?_ _)) ?_
      clear h8 h9 hc7 c1 k0 k1 k2 z0 z1 hcc hff hzz
      intro W3 hW3
      have H3 := Lib.hid hW3
      clear hW3
      have w1 : IntKind.i64.wrap (ln - z.l) = ln - z.l := IntWalk.i64_in _ ⟨by omega, by omega⟩
      have w2' : IntKind.i64.wrap (ln - z.l + D) = ln - z.l + D := IntWalk.i64_in _ ⟨by omega, by omega⟩
      go_region_held3 (fun w' => w'.cell? ⟨b0, o0 + h * 7 + 1, none⟩ = some (.int .i64 z.l) ∧ w'.cell? ⟨w2.heap.size, 0, none⟩ = some (.int .i64 b) ∧ w'.cell? ⟨w2.heap.size, 1, none⟩ = some (.int .i64 f) ∧ w'.cell? ⟨w2.heap.size, 2, none⟩ = some (.int .i64 h) ∧ w'.cell? ⟨w2.heap.size, 3, none⟩ = some (.int .i64 st) ∧ w'.cell? ⟨w2.heap.size, 4, none⟩ = some (.int .i64 ln) ∧ w'.cell? ⟨w.heap.size + 1, 0, none⟩ = some (.int .i64 x) ∧ w'.cell? ⟨w.heap.size + 1, 1, none⟩ = some (.int .i64 y) ∧ w'.cell? ⟨w.heap.size, 0, none⟩ = some (.slice (some ⟨b0, o0, none⟩) n cap) ∧ Held ((b0, o0 + h * 7 + 1, .int .i64 z.l) :: [(w2.heap.size, 0, .int .i64 b), (w2.heap.size, 1, .int .i64 f), (w2.heap.size, 2, .int .i64 h), (w2.heap.size, 3, .int .i64 st), (w2.heap.size, 4, .int .i64 ln), (w.heap.size + 1, 0, .int .i64 x), (w.heap.size + 1, 1, .int .i64 y), (w.heap.size, 0, .slice (some ⟨b0, o0, none⟩) n cap)]) w w') (exact Held.s9 (Held.later H3.out (by repeat (first | (with_reducible exact Later.refl _) | (with_reducible exact Hid.out (by assumption)) | (with_reducible refine Later.alloc ?_ _) | (with_reducible refine Later.setCell ?_ (by simp; omega) _) | (with_reducible refine Later.setCell ?_ (by simp) _) | (with_reducible refine Later.drewN ?_ _) | (with_reducible refine Later.drew ?_) | (with_reducible refine Later.trans ?_ (Hid.out (by assumption)))))))
        (first
          | (go_at_call 64; refine (HT _ (HS.out.later (Held.is (Held.later H3.out (by repeat (first | (with_reducible exact Later.refl _) | (with_reducible exact Hid.out (by assumption)) | (with_reducible refine Later.alloc ?_ _) | (with_reducible refine Later.setCell ?_ (by simp; omega) _) | (with_reducible refine Later.setCell ?_ (by simp) _) | (with_reducible refine Later.drewN ?_ _) | (with_reducible refine Later.drew ?_) | (with_reducible refine Later.trans ?_ (Hid.out (by assumption))))))))).mono ?_; rintro e w5 ⟨rfl, hb⟩; have H5 := Lib.hid hb; clear hb))
      all_goals
        go_wp2_with fail
        go_ret2
        exact ⟨ret_2i e2.out.symm e1.out.symm, H3.out.is.trans (by repeat (first | (with_reducible exact Later.refl _) | (with_reducible exact Hid.out (by assumption)) | (with_reducible refine Later.alloc ?_ _) | (with_reducible refine Later.setCell ?_ (by simp; omega) _) | (with_reducible refine Later.setCell ?_ (by simp) _) | (with_reducible refine Later.drewN ?_ _) | (with_reducible refine Later.drew ?_) | (with_reducible refine Later.trans ?_ (Hid.out (by assumption)))))⟩
  · have e1 : Hid (sbE L F p x y = meE L F p x y) := Lib.hid (by unfold sbE; rw [if_neg h0])
    have e2 : Hid (sbV L F p x y = 0) := Lib.hid (by unfold sbV okV; rw [e1.out, if_neg h0])
    have hbf : meB L F p x y = false := by unfold meB; simp [h0]
    rw [hbf] at HM
    generalize meE L F p x y = ce at *
    have hne : (ce != 0) = true := by simpa using h0
    clear hs hf h0 hbf
    go_enter Try.func29, Try.ntmps29
    go_wp2_with (go_at_call 62; refine (HM _ (HS.out.later (by repeat (first | (with_reducible exact Later.refl _) | (with_reducible exact Hid.out (by assumption)) | (with_reducible refine Later.alloc ?_ _) | (with_reducible refine Later.setCell ?_ (by simp; omega) _) | (with_reducible refine Later.setCell ?_ (by simp) _) | (with_reducible refine Later.drewN ?_ _) | (with_reducible refine Later.drew ?_) | (with_reducible refine Later.trans ?_ (Hid.out (by assumption)))))) (HF.out.later (by repeat (first | (with_reducible exact Later.refl _) | (with_reducible exact Hid.out (by assumption)) | (with_reducible refine Later.alloc ?_ _) | (with_reducible refine Later.setCell ?_ (by simp; omega) _) | (with_reducible refine Later.setCell ?_ (by simp) _) | (with_reducible refine Later.drewN ?_ _) | (with_reducible refine Later.drew ?_) | (with_reducible refine Later.trans ?_ (Hid.out (by assumption))))))).mono ?_; rintro e w1 ⟨rfl, hb⟩; obtain ⟨H, hcc, hff, hzz⟩ := later_facts hb; clear hb; (try simp at hzz))
    go_ret2
    exact ⟨ret_2i e2.out.symm e1.out.symm, (by repeat (first | (with_reducible exact Later.refl _) | (with_reducible exact Hid.out (by assumption)) | (with_reducible refine Later.alloc ?_ _) | (with_reducible refine Later.setCell ?_ (by simp; omega) _) | (with_reducible refine Later.setCell ?_ (by simp) _) | (with_reducible refine Later.drewN ?_ _) | (with_reducible refine Later.drew ?_) | (with_reducible refine Later.trans ?_ (Hid.out (by assumption)))))⟩
end Go.Proofs.Ytnmlkigpiaekjaa
