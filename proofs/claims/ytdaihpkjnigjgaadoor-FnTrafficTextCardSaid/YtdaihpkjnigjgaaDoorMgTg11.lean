/- The model's source out of a code; numbers picked and drawn. | Slices that came in, as the shell of a proof says them. | The walks of the exact laws of chapter 10 (gen/gen_tf.py). | The walk of the exact law on reading a traffic's text (gen/gen_tfz.py). | A new slice of numbers; the laws' bound on the code. | The state of a function that draws: boxes of its own, the source, and everything else as it was. | A state of draws beside a block of the call's own (St.own of XOcK, without chapter 5). | Drawn traffic. | The text of a traffic, of the model. | Drawn texts, sometimes damaged: whatever comes out is short. | Drawn texts of traffic. | The walk of the law on texts of traffic (gen/gen_tg1.py). -/
import Derived.Test.YtdaihpkjnigjgaaDoorDraw
import Derived.RegionTactic
import Derived.ChangeAlike
import Derived.Test.YtdaihpkjnigjgaaDoorTfL
import Derived.Test.YtdaihpkjnigjgaaDoorTfR
import Derived.Test.YtdaihpkjnigjgaaDoorHeld
import Derived.Test.YtdaihpkjnigjgaaDoorTfw
import Derived.Test.YtdaihpkjnigjgaaDoorTfa
import Derived.Test.YtdaihpkjnigjgaaDoorTfS
import Derived.Test.YtdaihpkjnigjgaaDoorTx0
import Derived.BigRegion
namespace Go.Proofs.YtdaihpkjnigjgaaDoor
open Go.RowKit
set_option maxHeartbeats 2000000
set_option linter.unusedVariables false
set_option linter.unusedSimpArgs false
/-- a slice of bytes that came in -/
def Bytes (w : World) (a : Option Addr) (len : Nat) : Prop :=
  len ≤ 9223372036854775807 ∧ ∀ k, k < len → ∃ b off x, a = some ⟨b, off, none⟩ ∧ w.cell? ⟨b, off + k, none⟩ = some (.int .u8 x) ∧ 0 ≤ x ∧ x ≤ 255
theorem bytes_code {w w' : World} {a : Option Addr} {len : Nat} (h : Bytes w a len) (hb : Below w.heap.size w w') : Code8 w' w.heap.size a len := by
  refine ⟨h.1, fun k hk => ?_⟩
  obtain ⟨b, off, x, rfl, hc, h0, h1⟩ := h.2 k hk
  have hl := cell_lt hc
  exact ⟨b, off, x, rfl, by omega, by rw [hb.cell (p := ⟨b, off + k, none⟩) hl]; exact hc, h0, h1⟩
def Began (w : World) (a : Option Addr) (len cap : Nat) (e : Ending) (w' : World) : Prop :=
  e = .returned (.pointer (some ⟨w.heap.size, 0, none⟩)) ∧ Src w' w.heap.size a len cap ∧ w.heap.size < w'.heap.size ∧ Below w.heap.size w w'
theorem s_From (a : Option Addr) (len cap : Nat) (w : World) (hs : Bytes w a len) :
    Calls Tryd.prog 20 #[.slice a len cap] w (Began w a len cap) := by
  have HS := Lib.hid hs
  have hl := hs.1
  clear hs
  go_enter Tryd.func20, Tryd.ntmps20
  go_wp2
  go_loopw [4] (fun i wr => ∃ (k : Nat) (s : Int), k ≤ len ∧ i = .int .i64 k ∧ 0 ≤ s ∧ s < 2147483647 ∧ wr.heap[w.heap.size]? = some (.cells #[.slice a len cap, .int .i64 0, .int .i64 s] 60 (0, 0)) ∧ Below w.heap.size w wr) (fun i _ => len - (intOf i).toNat)
  case atStart => exact ⟨0, 52021, by omega, rfl, by omega, by omega, heap_alloc_new w _, (Below.refl _ _).alloc (Nat.le_refl _) _⟩
  case round =>
    obtain ⟨k, s, hk, rfl, s0, s1, hb, hB⟩ := hrel
    have HB := Lib.hid hb
    have HW := Lib.hid hB
    have c2 : wr.cell? ⟨w.heap.size, 2, none⟩ = some (.int .i64 s) := by simp [World.cell?, hb]
    have f2 : wr.frozen? ⟨w.heap.size, 2, none⟩ = false := by simp [World.frozen?, hb]
    clear hb hB
    by_cases hlt : k < len ∧ k < 64
    · obtain ⟨h1, h2⟩ := hlt
      obtain ⟨b, off, x, rfl, hx0, x0, x1⟩ := HS.out.2 k h1
      have hx : wr.cell? ⟨b, off + k, none⟩ = some (.int .u8 x) := by rw [HW.out.cell (p := ⟨b, off + k, none⟩) (cell_lt hx0)]; exact hx0
      clear hx0
      go_wp2
      go_region
      go_wp2
      go_roundw
      case rel => exact ⟨k + 1, (s * 59 + x) % 2147483647, by omega, by go_num, by omega, by omega, set2 HB.out, (HW.out.drew.setCell (Nat.le_refl _) _)⟩
      case measure => simp [intOf]; omega
    · by_cases h1 : k < len
      · have h2 : decide (k < 64) = false := by simp; omega
        have h3 : ¬ k < 64 := by omega
        clear hlt
        go_wp2
        go_ret
        exact ⟨rfl, ⟨⟨0, s, by omega, s0, s1, HB.out⟩, bytes_code HS.out HW.out⟩, cell_lt c2, HW.out⟩
      · clear hlt
        go_wp2
        go_ret
        exact ⟨rfl, ⟨⟨0, s, by omega, s0, s1, HB.out⟩, bytes_code HS.out HW.out⟩, cell_lt c2, HW.out⟩
/-- what a draw leaves: the source, and everything else as it was -/
def Drawn (w : World) (B : Nat) (a : Option Addr) (len cap : Nat) (P : Int → Prop) (e : Ending) (w' : World) : Prop :=
  ∃ r : Int, e = .returned (.int .i64 r) ∧ P r ∧ Src w' B a len cap ∧ w.grownBy w' (some B)
theorem Src.lt {w : World} {B : Nat} {a : Option Addr} {len cap : Nat} (h : Src w B a len cap) : B < w.heap.size := by
  obtain ⟨⟨p, s, _, _, _, hb⟩, _⟩ := h
  exact (Array.getElem?_eq_some_iff.1 hb).1
theorem Src.drewN {w : World} {B : Nat} {a : Option Addr} {len cap : Nat} (h : Src w B a len cap) (q : Nat) : Src (w.drewN q) B a len cap := h
theorem Src.alloc {w : World} {B : Nat} {a : Option Addr} {len cap : Nat} (h : Src w B a len cap) (o : Obj) : Src (w.alloc o) B a len cap := by
  have hB := h.lt
  obtain ⟨⟨p, s, h1, h2, h3, hb⟩, hc⟩ := h
  refine ⟨⟨p, s, h1, h2, h3, by rw [← hb]; exact Below.heap_alloc w o B hB⟩, hc.kept (World.grownBy_alloc w o _)⟩
/-- the source outlives writes to other blocks -/
theorem Src.kept {w w' : World} {B : Nat} {a : Option Addr} {len cap : Nat} {row : Option Nat} (h : Src w B a len cap) (hg : w.grownBy w' row) (hB : some B ≠ row) (hr : ∀ x, a = some x → some x.block ≠ row) : Src w' B a len cap := by
  have hlt := h.lt
  obtain ⟨⟨p, s, h1, h2, h3, hb⟩, hc⟩ := h
  refine ⟨⟨p, s, h1, h2, h3, by rw [← hb]; exact hg.block B hlt hB⟩, hc.1, fun k hk => ?_⟩
  obtain ⟨b, off, x, rfl, hne, hx, x0, x1⟩ := hc.2 k hk
  exact ⟨b, off, x, rfl, hne, hg.cell hx (hr ⟨b, off, none⟩ rfl), x0, x1⟩
theorem s_Pick (B : Nat) (a : Option Addr) (len cap : Nat) (b : Addr) (n m : Nat) (l : List Int) (w : World) (hs : Src w B a len cap) (hl : Sl w (some b) n l) (hb : b.block ≠ B) (hn : 1 ≤ n) :
    Calls Tryd.prog 41 #[.pointer (some ⟨B, 0, none⟩), .slice (some b) n m] w (Drawn w B a len cap (fun r => r ∈ l)) := by
  have HS := Lib.hid hs
  have HL := Lib.hid hl
  have HB := Lib.hid hb
  have hn2 := hl.2.1
  clear hs hl hb
  go_enter Tryd.func41, Tryd.ntmps41
  go_wp2_with fail
  refine (s_Next B a len cap n w HS.out (by omega) (by omega)).mono ?_
  rintro e w' ⟨r, rfl, r0, r1, r2, src, gr⟩
  have hr : r < n := by
    by_cases h : 1 < n
    · exact r1 (by omega)
    · have := r2 (by omega); omega
  obtain ⟨k, rfl⟩ := Int.eq_ofNat_of_zero_le r0
  have hk : k < n := by omega
  obtain ⟨bb, off, hbb, hc⟩ := HL.out.2.2.1 k hk
  simp only [Option.some.injEq] at hbb
  subst hbb
  have hc' : w'.cell? ⟨bb, off + k, none⟩ = some (.int .i64 (gx l k)) := gr.cell hc (by simpa using HB.out)
  have HG := Lib.hid gr; have HR := Lib.hid src
  have HM := Lib.hid (gx_mem l k (by rw [HL.out.1]; exact hk))
  clear gr src r1 r2 hc
  go_wp2
  go_ret
  exact ⟨_, rfl, HM.out, HR.out, HG.out⟩
theorem Src.kept2 {w w' : World} {B : Nat} {a : Option Addr} {len cap : Nat} {row : Option Nat} (h : Src w B a len cap) (hab : 0 < len → ∀ x, a = some x → x.block < B) (hg : w.grownBy w' row) (hr : ∀ k, row = some k → B < k) : Src w' B a len cap := by
  have hlt := h.lt
  obtain ⟨⟨p, s, h1, h2, h3, hb⟩, hc⟩ := h
  refine ⟨⟨p, s, h1, h2, h3, by rw [← hb]; exact hg.block B hlt (fun e => by have := hr B e.symm; omega)⟩, hc.1, fun k hk => ?_⟩
  obtain ⟨b, off, x, rfl, hne, hx, x0, x1⟩ := hc.2 k hk
  exact ⟨b, off, x, rfl, hne, hg.cell hx (fun e => by have := hr b e.symm; have := hab (by omega) ⟨b, off, none⟩ rfl; simp at this; omega), x0, x1⟩
theorem Bytes.low {w : World} {a : Option Addr} {len : Nat} (h : Bytes w a len) : 0 < len → ∀ x, a = some x → x.block < w.heap.size := by
  intro hl x hx
  obtain ⟨b, off, y, hb, hc, _⟩ := h.2 0 hl
  rw [hx] at hb; cases hb
  exact cell_lt hc
theorem Bytes.later {w w' : World} {a : Option Addr} {len : Nat} (h : Bytes w a len) (hb : Below w.heap.size w w') : Bytes w' a len := by
  refine ⟨h.1, fun k hk => ?_⟩
  obtain ⟨b, off, x, rfl, hc, x0, x1⟩ := h.2 k hk
  exact ⟨b, off, x, rfl, by rw [hb.cell (p := ⟨b, off + k, none⟩) (cell_lt hc)]; exact hc, x0, x1⟩
end Go.Proofs.YtdaihpkjnigjgaaDoor
namespace Go.Proofs.YtdaihpkjnigjgaaDoor
open Go.RowKit
set_option maxHeartbeats 2000000
set_option linter.unusedVariables false
set_option linter.unusedSimpArgs false
/-- a slice of integers that came in, as the shell of a proof says it -/
def IsRow (k : IntKind) (w : World) (a : Option Addr) (len cap : Nat) (zs : List Int) : Prop :=
  (a = none ∧ len = 0 ∧ cap = 0 ∧ zs = []) ∨
  ∃ x, a = some x ∧ len ≤ cap ∧ cap ≤ maxLen ∧ zs.length = cap ∧ (∀ i, i < zs.length → w.cell? (x.add i) = some (.int k (zs.getD i 0))) ∧ ∀ n ∈ zs, (Lit.int k n).wf = true
theorem isRow_sl {w : World} {a : Option Addr} {len cap : Nat} {zs : List Int} (h : IsRow .i64 w a len cap zs) : Sl w a len (zs.take len) := by
  rcases h with ⟨rfl, rfl, rfl, rfl⟩ | ⟨x, rfl, hl, hm, hz, hc, hw⟩
  · exact ⟨rfl, by omega, fun k hk => absurd hk (by omega), fun x hx => by simp at hx⟩
  · unfold maxLen at hm
    refine ⟨by rw [List.length_take]; omega, by omega, fun k hk => ?_, fun y hy => ?_⟩
    · have h0 := hc 0 (by omega)
      have hk0 := hc k (by omega)
      obtain ⟨b, off, spot⟩ := x
      have hspot : spot = none := by simpa [Addr.add] using World.cell?_spot h0
      subst hspot
      rw [Addr.add_lit] at hk0
      exact ⟨b, off, rfl, by rw [gx_take _ _ _ hk]; exact hk0⟩
    · have := hw y (List.mem_of_mem_take hy)
      simp [Lit.wf, IntKind.min, IntKind.max, IntKind.signed, IntKind.bits] at this
      exact this
theorem isRow_bytes {w : World} {a : Option Addr} {len cap : Nat} {zs : List Int} (h : IsRow .u8 w a len cap zs) : Bytes w a len := by
  rcases h with ⟨rfl, rfl, rfl, rfl⟩ | ⟨x, rfl, hl, hm, hz, hc, hw⟩
  · exact ⟨by omega, fun k hk => absurd hk (by omega)⟩
  · unfold maxLen at hm
    refine ⟨by omega, fun k hk => ?_⟩
    have h0 := hc 0 (by omega)
    have hk0 := hc k (by omega)
    obtain ⟨b, off, spot⟩ := x
    have hspot : spot = none := by simpa [Addr.add] using World.cell?_spot h0
    subst hspot
    rw [Addr.add_lit] at hk0
    have hb := hw (zs.getD k 0) (show gx zs k ∈ zs from gx_mem zs k (by omega))
    simp [Lit.wf, IntKind.min, IntKind.max, IntKind.signed, IntKind.bits] at hb
    exact ⟨b, off, zs.getD k 0, rfl, hk0, by simpa using hb.1, by simpa using hb.2⟩
end Go.Proofs.YtdaihpkjnigjgaaDoor
namespace Go.Proofs.YtdaihpkjnigjgaaDoor
open Go.RowKit
set_option maxHeartbeats 4000000
set_option maxRecDepth 100000
set_option linter.unusedVariables false
set_option linter.unusedSimpArgs false
theorem szT_big {n : Nat} (h : 1048576 < n) : szT n = -1 := by unfold szT; rw [if_neg (by omega)]
theorem szT_ok {n : Nat} (h : n ≤ 1048576) : szT n = 1048576 - (n : Int) := by unfold szT; rw [if_pos h]
theorem ht_box2 {l : List (Nat × Nat × Value)} {w0 W : World} (h : Held l w0 W) (v0 v1 : Value) (T : TypeId) : Held ((W.heap.size, 0, v0) :: (W.heap.size, 1, v1) :: l) w0 (W.alloc (.cells #[v0, v1] T)) :=
  held_more (held_more (h.alloc _) _ _ _ (cl_new _ _ _ _ _ _ rfl rfl) (by simp)) _ _ _ (cl_new _ _ _ _ _ _ rfl rfl) (by simp)
theorem ht_grown {l : List (Nat × Nat × Value)} {w0 w1 w2 : World} {r : Option Nat} (h : Held l w0 w1) (g : w1.grownBy w2 r) (hr : ∀ x ∈ l, r ≠ some x.1) (hw : ∀ k, r = some k → w0.heap.size ≤ k) : Held l w0 w2 :=
  ⟨fun x hx => ⟨Nat.lt_of_lt_of_le (h.1 x hx).1 g.size, g.cell (h.1 x hx).2 (fun e => hr x hx e.symm)⟩, Below.grown h.2 g h.2.size hw⟩
theorem own_keptT {w w' : World} {base : Nat} {v : Value} {l : List Int} {row : Option Nat} (h : Own w base v l) (hg : w.grownBy w' row) (hr : ∀ k, v.ownBlock = some k → row ≠ some k) : Own w' base v l := by
  refine ⟨h.1.kept hg ?_, h.2⟩
  cases hv : v.ownBlock with
  | none => exact .inl rfl
  | some k => exact .inr (fun e => hr k hv e.symm)
theorem l_eqIT (a b : Option Addr) (n cap m cap' : Nat) (l : List Int) (w : World) (hs : Sl w a n l) (ht : Sl w b m l) :
    Calls Tryd.prog 38 #[.slice a n cap, .slice b m cap'] w fun e w' => e = .returned (.bool true) ∧ Later w w' :=
  (l_eqInt64S a b n cap m cap' l w hs ht).mono fun e w' ⟨he, q, hq⟩ => ⟨he, by rw [hq]; exact (Later.refl _).drewN q⟩
theorem own_slT {w : World} {base n cap : Nat} {a : Option Addr} {l : List Int} (h : Own w base (.slice a n cap) l) : Sl w a n l := by
  obtain ⟨a', c', e, s, _⟩ := h.sl
  cases e; exact s
theorem alL_le (B : Int) (l : List Int) (h : l.length ≤ 4) : (alL B l l.length).length ≤ 1000 := Nat.le_trans (alL_len _ _ _) (by omega)
theorem udV_le (B : Int) (l : List Int) (t : Int) : (udV B l t).length ≤ 1000 := by
  unfold udV
  by_cases h : thE B l t = 0
  · rw [if_pos h]
    obtain ⟨hv, _⟩ := thE_ok h
    obtain ⟨_, b2, _, _, _⟩ := (tfB_iff B l).1 hv
    exact Nat.le_trans (ulM_len _ _ _) (by omega)
  · rw [if_neg h]; simp
theorem usV_le (B : Int) (l : List Int) : (usV B l).length ≤ 1000 := by
  unfold usV
  cases h : tfB B l
  · simp
  · obtain ⟨_, b2, _, _, _⟩ := (tfB_iff B l).1 h
    rw [if_pos rfl, ldL_len]; omega
theorem awV_le (B : Int) (l : List Int) : (awV B l).length ≤ 1000 := by
  unfold awV
  cases h : sfB B l
  · simp
  · obtain ⟨_, _, _, b4, _⟩ := (tfB_iff B l).1 (sfB_tf h)
    rw [if_pos rfl]; exact alL_le B l b4
theorem mtV_le (B : Int) (l : List Int) (t : Int) : (mtV B l t).length ≤ 1000 := by
  unfold mtV
  by_cases h : thE B l t = 0
  · rw [if_pos h, mvL_len]
    obtain ⟨hv, _⟩ := thE_ok h
    obtain ⟨_, _, _, b4, _⟩ := (tfB_iff B l).1 hv
    omega
  · rw [if_neg h]; simp
theorem rvV_le (B : Int) (l ts : List Int) : (rvV B l ts).length ≤ 1000 := by
  unfold rvV
  by_cases h : rnE B l ts = 0
  · rw [if_pos h, rnL_len]
    cases hv : tfB B l
    · rw [rnE_1 hv] at h; simp at h
    · obtain ⟨_, _, _, b4, _⟩ := (tfB_iff B l).1 hv
      omega
  · rw [if_neg h]; simp
theorem row_nil {k : IntKind} {w : World} {a : Option Addr} {len cap : Nat} {zs : List Int} (h : IsRow k w a len cap zs) : len ≤ cap := by
  rcases h with ⟨rfl, rfl, rfl, rfl⟩ | ⟨x, rfl, hl, _⟩
  · exact Nat.le_refl _
  · exact hl

end Go.Proofs.YtdaihpkjnigjgaaDoor
namespace Go.Proofs.YtdaihpkjnigjgaaDoor
open Go.RowKit Go.Shelf
set_option maxHeartbeats 4000000
set_option maxRecDepth 100000
set_option linter.unusedVariables false
set_option linter.unusedSimpArgs false
/-- what a reading of a text leaves, whichever way -/
def NewRF (w : World) (B : Int) (V : List Int) (ok : Bool) (e : Ending) (w' : World) : Prop := ∃ v, e = .returned (.tuple #[.agg #[.int .i64 B, v], .bool ok]) ∧ Own w' w.heap.size v V ∧ Later w w'
theorem rf_same (l : List UInt8) : ∃ (B : Int) (V : List Int) (ok : Bool), V.length ≤ 1000 ∧ (∀ w e w', ReadsF w l e w' → NewRF w B V ok e w') ∧ (ok = true → IsTx l B V) ∧ (ok = false → B = 0 ∧ V = [] ∧ ∀ B L, ¬ IsTx l B L) := by
  by_cases h : ∃ B L, IsTx l B L
  · obtain ⟨B, L, hx⟩ := h
    obtain ⟨_, _, _, b4, _⟩ := (tfB_iff B L).1 hx.1
    refine ⟨B, L, true, by omega, fun w e w' hr => ?_, fun _ => hx, fun h => by cases h⟩
    obtain ⟨hb, hr⟩ := hr
    rcases hr with ⟨B', L', v, hx', he, ho⟩ | ⟨hno, _⟩
    · obtain ⟨e1, e2⟩ := isTx_inj hx hx'
      rw [e1, e2]
      exact ⟨v, he, ho, hb⟩
    · exact absurd hx (hno B L)
  · have hno : ∀ B L, ¬ IsTx l B L := fun B L hx => h ⟨B, L, hx⟩
    refine ⟨0, [], false, by simp, fun w e w' hr => ?_, fun h => (by cases h), fun _ => ⟨rfl, rfl, hno⟩⟩
    obtain ⟨hb, hr⟩ := hr
    rcases hr with ⟨B', L', v, hx', _⟩ | ⟨_, he⟩
    · exact absurd hx' (hno B' L')
    · exact ⟨_, he, tf_none _ _, hb⟩
theorem walk_FnExactReadTraffic (s : ByteArray) (hml : s.size ≤ maxLen) (w : World) (hx : Tab w ∧ MaxL w ∧ Errs w) :
    Calls Tryd.prog 5 #[.string s] w fun e w' => e = .returned (.bool true) ∧ Below w.heap.size w w' := by
  clear hml
  have HT := Lib.hid hx.1; have HM := Lib.hid hx.2.1; have HE := Lib.hid hx.2.2
  clear hx
  by_cases hs : 1048576 < s.size
  · have e1 : decide ((1048576 : Int) < s.size) = true := by simp; omega
    go_enter Tryd.func5, Tryd.ntmps5
    go_wp2_with fail
    go_ret
    exact ⟨rfl, by first | exact Later.refl _ | exact (Later.refl _).drew⟩
  have hs2 : s.size ≤ 1048576 := by omega
  have e1 : decide ((1048576 : Int) < s.size) = false := by simp; omega
  clear hs
  obtain ⟨B2, V, ok, hVl, hRF, _, _⟩ := rf_same s.data.toList
  have SC : Hid (∀ W, Calls Tryd.prog 11 #[.string s] W (NewRF W B2 V ok)) := Lib.hid (fun W => (s_ReadTraffic s W hs2).mono (fun e w' h => hRF _ _ _ h))
  have IC : Hid (∀ W, Later w W → Calls Tryd.prog 9 #[.string s] W (NewRF W B2 V ok)) := Lib.hid (fun W h => (i_ReadTraffic s W hs2 (HT.out.later h) (HM.out.later h) (HE.out.lat h)).mono (fun e w' h => hRF _ _ _ h))
  clear hRF
  have e0 : (ok != ok) = false := by simp
  go_enter Tryd.func5, Tryd.ntmps5
  have K0 : Hid (Held [] w w) := Lib.hid (held_none w)
  go_wp2_with fail
  refine (SC.out _).mono ?_
  rintro e w1 ⟨vW, rfl, ho, hb⟩
  obtain ⟨aW, cW, rfl, _, _⟩ := ho.sl
  have bW := ho.lt
  have OW := Lib.hid ho
  clear ho
  have K1 := Lib.hid (Held.later K0.out (show Later _ w1 from hb))
  have z1 := Later.size (show Later _ w1 from hb)
  try simp only [World.size_alloc] at z1
  clear hb
  clear K0
  obtain ⟨bWlo, hbWlo⟩ : ∃ x, x = w.heap.size := ⟨_, rfl⟩
  have bW' : ∀ k, (Value.slice aW V.length cW).ownBlock = some k → w.heap.size ≤ k ∧ k < w1.heap.size := bW
  clear hbWlo bWlo
  have K2 := Lib.hid (ht_box2 K1.out (.int .i64 B2) (.slice aW V.length cW) 26)
  clear K1
  have OW' := Lib.hid (OW.out.alloc (.cells #[.int .i64 B2, .slice aW V.length cW] 26))
  clear OW
  have OW := OW'
  clear OW'
  obtain ⟨c0, c1, _⟩ := Held.s2 K2.out
  go_wp2_with fail
  clear c0 c1
  refine (IC.out _ (show Later w _ from K2.out.2)).mono ?_
  rintro e w2 ⟨vG, rfl, ho, hb⟩
  try simp only [World.size_alloc] at ho
  obtain ⟨aG, cG, rfl, _, _⟩ := ho.sl
  have bG := ho.lt
  have OG := Lib.hid ho
  clear ho
  have K3 := Lib.hid (Held.later K2.out (show Later _ w2 from hb))
  have z2 := Later.size (show Later _ w2 from hb)
  try simp only [World.size_alloc] at z2
  have OW' := Lib.hid (tf_lat OW.out (show Later _ w2 from hb))
  clear OW
  have OW := OW'
  clear OW'
  clear hb
  clear K2
  have K4 := Lib.hid (ht_box2 K3.out (.int .i64 B2) (.slice aG V.length cG) 26)
  clear K3
  have OW' := Lib.hid (OW.out.alloc (.cells #[.int .i64 B2, .slice aG V.length cG] 26))
  clear OW
  have OW := OW'
  clear OW'
  have OG' := Lib.hid (OG.out.alloc (.cells #[.int .i64 B2, .slice aG V.length cG] 26))
  clear OG
  have OG := OG'
  clear OG'
  obtain ⟨c0, c1, c2, c3, _⟩ := Held.s4 K4.out
  go_wp2_with fail
  clear c0 c1 c2 c3
  refine (l_eqTraffic _ _ _ _ _ _ _ V _ (own_slT OG.out) (own_slT OW.out)).mono ?_
  rintro e w3 ⟨rfl, hb⟩
  have K5 := Lib.hid (Held.later K4.out (show Later _ w3 from hb))
  have z3 := Later.size (show Later _ w3 from hb)
  try simp only [World.size_alloc] at z3
  have OW' := Lib.hid (tf_lat OW.out (show Later _ w3 from hb))
  clear OW
  have OW := OW'
  clear OW'
  have OG' := Lib.hid (tf_lat OG.out (show Later _ w3 from hb))
  clear OG
  have OG := OG'
  clear OG'
  clear hb
  clear K4
  obtain ⟨c0, c1, c2, c3, _⟩ := Held.s4 K5.out
  go_wp2_with fail
  clear c0 c1 c2 c3
  refine (l_markTraffic _ _ _ V _ OG.out (by omega)).mono ?_
  rintro e w4 ⟨rfl, hm, hg⟩
  have OM := Lib.hid hm
  clear hm OG
  have K6 := Lib.hid (ht_grown K5.out hg (by intro x hx; simp only [List.mem_cons, List.not_mem_nil, or_false] at hx; rcases hx with rfl | rfl | rfl | rfl <;> (intro e; have := bG _ e; (try simp only [] at this); omega)) (by intro k e; have := bG k e; omega))
  have z4 := hg.size
  have OW' := Lib.hid (own_keptT OW.out hg (by intro k hk e; have := bW' k hk; have := bG k e; omega))
  clear OW
  have OW := OW'
  clear OW'
  clear hg
  clear K5
  obtain ⟨c0, c1, c2, c3, _⟩ := Held.s4 K6.out
  go_wp2_with fail
  clear c0 c1 c2 c3
  refine (l_heldTraffic _ _ _ V _ OM.out (by omega)).mono ?_
  rintro e w5 ⟨rfl, hb⟩
  have K7 := Lib.hid (Held.later K6.out (show Later _ w5 from hb))
  have z5 := Later.size (show Later _ w5 from hb)
  try simp only [World.size_alloc] at z5
  have OW' := Lib.hid (tf_lat OW.out (show Later _ w5 from hb))
  clear OW
  have OW := OW'
  clear OW'
  have OM' := Lib.hid (tf_lat OM.out (show Later _ w5 from hb))
  clear OM
  have OM := OM'
  clear OM'
  clear hb
  clear K6
  obtain ⟨c0, c1, c2, c3, _⟩ := Held.s4 K7.out
  go_wp2_with fail
  clear c0 c1 c2 c3
  refine (IC.out _ (show Later w _ from K7.out.2)).mono ?_
  rintro e w6 ⟨vH, rfl, ho, hb⟩
  obtain ⟨aH, cH, rfl, _, _⟩ := ho.sl
  have OH := Lib.hid ho
  clear ho
  have K8 := Lib.hid (Held.later K7.out (show Later _ w6 from hb))
  have z6 := Later.size (show Later _ w6 from hb)
  try simp only [World.size_alloc] at z6
  have OW' := Lib.hid (tf_lat OW.out (show Later _ w6 from hb))
  clear OW
  have OW := OW'
  clear OW'
  have OM' := Lib.hid (tf_lat OM.out (show Later _ w6 from hb))
  clear OM
  have OM := OM'
  clear OM'
  clear hb
  clear K7
  have K9 := Lib.hid (ht_box2 K8.out (.int .i64 B2) (.slice aH V.length cH) 26)
  clear K8
  have OW' := Lib.hid (OW.out.alloc (.cells #[.int .i64 B2, .slice aH V.length cH] 26))
  clear OW
  have OW := OW'
  clear OW'
  have OM' := Lib.hid (OM.out.alloc (.cells #[.int .i64 B2, .slice aH V.length cH] 26))
  clear OM
  have OM := OM'
  clear OM'
  have OH' := Lib.hid (OH.out.alloc (.cells #[.int .i64 B2, .slice aH V.length cH] 26))
  clear OH
  have OH := OH'
  clear OH'
  obtain ⟨c0, c1, c2, c3, c4, c5, _⟩ := Held.s6 K9.out
  go_wp2_with fail
  clear c0 c1 c2 c3 c4 c5
  refine (l_eqTraffic _ _ _ _ _ _ _ V _ (own_slT OH.out) (own_slT OW.out)).mono ?_
  rintro e w7 ⟨rfl, hb⟩
  have K10 := Lib.hid (Held.later K9.out (show Later _ w7 from hb))
  have z7 := Later.size (show Later _ w7 from hb)
  try simp only [World.size_alloc] at z7
  have OW' := Lib.hid (tf_lat OW.out (show Later _ w7 from hb))
  clear OW
  have OW := OW'
  clear OW'
  have OM' := Lib.hid (tf_lat OM.out (show Later _ w7 from hb))
  clear OM
  have OM := OM'
  clear OM'
  have OH' := Lib.hid (tf_lat OH.out (show Later _ w7 from hb))
  clear OH
  have OH := OH'
  clear OH'
  clear hb
  clear K9
  obtain ⟨c0, c1, c2, c3, c4, c5, _⟩ := Held.s6 K10.out
  go_wp2_with fail
  clear c0 c1 c2 c3 c4 c5
  refine (l_heldTraffic _ _ _ V _ OM.out (by omega)).mono ?_
  rintro e w8 ⟨rfl, hb⟩
  have K11 := Lib.hid (Held.later K10.out (show Later _ w8 from hb))
  have z8 := Later.size (show Later _ w8 from hb)
  try simp only [World.size_alloc] at z8
  have OW' := Lib.hid (tf_lat OW.out (show Later _ w8 from hb))
  clear OW
  have OW := OW'
  clear OW'
  have OM' := Lib.hid (tf_lat OM.out (show Later _ w8 from hb))
  clear OM
  have OM := OM'
  clear OM'
  have OH' := Lib.hid (tf_lat OH.out (show Later _ w8 from hb))
  clear OH
  have OH := OH'
  clear OH'
  clear hb
  clear K10
  obtain ⟨c0, c1, c2, c3, c4, c5, _⟩ := Held.s6 K11.out
  go_wp2_with fail
  go_ret
  exact ⟨rfl, K11.out.2⟩
end Go.Proofs.YtdaihpkjnigjgaaDoor
namespace Go.Proofs.YtdaihpkjnigjgaaDoor
open Go.RowKit
set_option maxHeartbeats 2000000
set_option linter.unusedVariables false
set_option linter.unusedSimpArgs false
theorem sl_new (w : World) (l : List Int) (T : TypeId) (hn : l.length ≤ 9223372036854775807) (hr : ∀ x ∈ l, InR x) : Sl (w.alloc (.cells (l.map (Value.int .i64)).toArray T)) (some ⟨w.heap.size, 0, none⟩) l.length l := by
  refine ⟨rfl, hn, fun k hk => ⟨w.heap.size, 0, rfl, ?_⟩, hr⟩
  rw [Nat.zero_add, cell_of_row _ _ k _ T (0, 0) (heap_alloc_new w _)]
  simp [hk, gx_of l k hk]
def Two (w : World) (e : Ending) (w' : World) : Prop :=
  ∃ a b : Int, e = .returned (.tuple #[.int .i64 a, .int .i64 b]) ∧ InR a ∧ InR b ∧ Below w.heap.size w w'
def One (w : World) (e : Ending) (w' : World) : Prop :=
  ∃ a : Int, e = .returned (.int .i64 a) ∧ InR a ∧ Below w.heap.size w w'
theorem l_big (a : Option Addr) (len cap : Nat) (w : World) :
    Calls Tryd.prog 6 #[.slice a len cap] w fun e w' => e = .returned (.bool (decide (4096 < len))) ∧ w = w' := by
  go_enter Tryd.func6, Tryd.ntmps6
  go_wp2
  go_ret
  exact ⟨ret_b (by simp; omega), rfl⟩
end Go.Proofs.YtdaihpkjnigjgaaDoor
namespace Go.Proofs.YtdaihpkjnigjgaaDoor
open Go.RowKit
set_option linter.unusedVariables false
set_option linter.unusedSimpArgs false
theorem fr_new (X : World) (l : List Value) (T : TypeId) : Fr X.heap.size l (X.alloc (.cells l.toArray T)) := fr_alloc (Later.refl _)
theorem grown_set_new {a b : World} {r : Option Nat} (h : a.grownBy b r) {p : Addr} (hp : a.heap.size ≤ p.block) (u : Value) : a.grownBy (b.setCell p u) r :=
  ⟨h.os, h.tape, h.output, by rw [World.size_setCell]; exact h.size, fun i hi hr => (Below.heap_setCell b p u i (by omega)).trans (h.block i hi hr)⟩
theorem grown_later {a b c : World} {r : Option Nat} (h : a.grownBy b r) (k : Later b c) : a.grownBy c r :=
  ⟨k.os.trans h.os, k.tape.trans h.tape, k.output.trans h.output, Nat.le_trans h.size k.size, fun i hi hr => (k.block i (Nat.lt_of_lt_of_le hi h.size)).trans (h.block i hi hr)⟩
theorem Src.low {w : World} {B : Nat} {a : Option Addr} {len cap : Nat} (h : Src w B a len cap) : 0 < len → ∀ x, a = some x → x.block < w.heap.size := by
  intro hl x hx
  obtain ⟨b, off, y, hb, _, hc, _⟩ := h.2.2 0 hl
  rw [hx] at hb; cases hb
  exact cell_lt hc
theorem Src.later {w w' : World} {B : Nat} {a : Option Addr} {len cap : Nat} (h : Src w B a len cap) (k : Later w w') : Src w' B a len cap := by
  have hB := h.lt
  obtain ⟨⟨p, s, h1, h2, h3, hb⟩, hc⟩ := h
  refine ⟨⟨p, s, h1, h2, h3, by rw [← hb]; exact k.block B hB⟩, hc.1, fun i hi => ?_⟩
  obtain ⟨b, off, x, rfl, hne, hx, x0, x1⟩ := hc.2 i hi
  exact ⟨b, off, x, rfl, hne, by rw [k.cell (p := ⟨b, off + i, none⟩) (cell_lt hx)]; exact hx, x0, x1⟩
theorem Src.set1 {w : World} {B g j : Nat} {a : Option Addr} {len cap : Nat} {u : Value} (h : Src w B a len cap) (hg : B ≠ g) (hl : 0 < len → ∀ x, a = some x → x.block ≠ g) : Src (w.setCell ⟨g, j, none⟩ u) B a len cap := by
  obtain ⟨⟨p, s, h1, h2, h3, hb⟩, hc⟩ := h
  refine ⟨⟨p, s, h1, h2, h3, by rw [Below.heap_setCell w ⟨g, j, none⟩ u B hg]; exact hb⟩, hc.1, fun k hk => ?_⟩
  obtain ⟨b, off, x, rfl, hne, hx, x0, x1⟩ := hc.2 k hk
  exact ⟨b, off, x, rfl, hne, by rw [World.cell?_setCell_far _ _ _ _ (Ne.symm (hl (by omega) ⟨b, off, none⟩ rfl))]; exact hx, x0, x1⟩
/-- what is common to all states of a call that began in w0: the source is in order, the rest as it was -/
def St0 (B : Nat) (a : Option Addr) (len cap : Nat) (w0 W : World) : Prop :=
  Src w0 B a len cap ∧ Src W B a len cap ∧ w0.grownBy W (some B)
/-- and these cells of new blocks hold these values -/
def St (l : List (Nat × Nat × Value)) (B : Nat) (a : Option Addr) (len cap : Nat) (w0 W : World) : Prop :=
  (∀ x ∈ l, w0.heap.size ≤ x.1 ∧ x.1 < W.heap.size ∧ W.cell? ⟨x.1, x.2.1, none⟩ = some x.2.2 ∧ W.frozen? ⟨x.1, x.2.1, none⟩ = false) ∧ St0 B a len cap w0 W
section
variable {l : List (Nat × Nat × Value)} {B : Nat} {a : Option Addr} {len cap : Nat} {w0 W W1 : World}
theorem St.src (h : St l B a len cap w0 W) : Src W B a len cap := h.2.2.1
theorem St.grown (h : St l B a len cap w0 W) : w0.grownBy W (some B) := h.2.2.2
theorem St.lt (h : St l B a len cap w0 W) : B < w0.heap.size := h.2.1.lt
theorem St.le (h : St l B a len cap w0 W) : w0.heap.size ≤ W.heap.size := h.2.2.2.size
theorem St.begin (h : Src w0 B a len cap) : St [] B a len cap w0 w0 := ⟨fun x hx => by simp at hx, h, h, ⟨rfl, rfl, rfl, Nat.le_refl _, fun _ _ _ => rfl⟩⟩
theorem St.call (h : St l B a len cap w0 W) (src : Src W1 B a len cap) (gr : W.grownBy W1 (some B)) : St l B a len cap w0 W1 := by
  refine ⟨fun x hx => ?_, h.2.1, src, grown_trans h.2.2.2 gr⟩
  obtain ⟨h1, h2, h3, h4⟩ := h.1 x hx
  have hB := h.lt
  have hne : x.1 ≠ B := by omega
  exact ⟨h1, Nat.lt_of_lt_of_le h2 gr.size, gr.cell h3 (by simpa using hne), by rw [World.frozen?_of_block (w := W) (gr.block x.1 h2 (by simpa using hne))]; exact h4⟩
theorem St.later (h : St l B a len cap w0 W) (k : Later W W1) : St l B a len cap w0 W1 := by
  refine ⟨fun x hx => ?_, h.2.1, h.2.2.1.later k, grown_later h.2.2.2 k⟩
  obtain ⟨h1, h2, h3, h4⟩ := h.1 x hx
  exact ⟨h1, Nat.lt_of_lt_of_le h2 k.size, by rw [k.cell (p := ⟨x.1, x.2.1, none⟩) h2]; exact h3, by rw [Below.frozen (p := ⟨x.1, x.2.1, none⟩) k h2]; exact h4⟩
theorem St.alloc (h : St l B a len cap w0 W) (o : Obj) : St l B a len cap w0 (W.alloc o) := h.later ((Later.refl _).alloc o)
theorem St.drew (h : St l B a len cap w0 W) : St l B a len cap w0 W.drew := h.later (Later.refl _).drew
theorem St.drewN (h : St l B a len cap w0 W) (q : Nat) : St l B a len cap w0 (W.drewN q) := h.later ((Later.refl _).drewN q)
theorem St.more (h : St l B a len cap w0 W) {b : Nat} {vs : List Value} (F : Fr b vs W) (hb : w0.heap.size ≤ b) (o : Nat) (v : Value) (hv : vs[o]? = some v) : St ((b, o, v) :: l) B a len cap w0 W := by
  refine ⟨fun x hx => (List.mem_cons.1 hx).elim (fun e => ?_) (h.1 x), h.2⟩
  rw [e]
  exact ⟨hb, F.1, (F.2 o v hv).1, (F.2 o v hv).2⟩
theorem intoSt {P : Program} {c : Code} {Q : Exit → Act → World → Prop} {a' : Act} (h0 : St l B a len cap w0 W) (k : ∀ W, St l B a len cap w0 W → Code.wp P c Q a' W) : Code.wp P c Q a' W := k W h0
theorem St.bare (h : St l B a len cap w0 W) : St [] B a len cap w0 W := ⟨fun x hx => by simp at hx, h.2⟩
theorem St.fewer {y : Nat × Nat × Value} (h : St (y :: l) B a len cap w0 W) : St l B a len cap w0 W := ⟨fun x hx => h.1 x (List.mem_cons_of_mem _ hx), h.2⟩
/-- a store into a new block -/
theorem St.set (h : St l B a len cap w0 W) (g j : Nat) (u : Value) (hg : w0.heap.size ≤ g) (hl : ∀ x ∈ l, x.1 ≠ g) : St l B a len cap w0 (W.setCell ⟨g, j, none⟩ u) := by
  have hB := h.lt
  refine ⟨fun x hx => ?_, h.2.1, h.2.2.1.set1 (by omega) (fun hl x hx e => by have := h.2.1.low hl x hx; omega), grown_set_new h.2.2.2 hg u⟩
  obtain ⟨h1, h2, h3, h4⟩ := h.1 x hx
  exact ⟨h1, by rw [World.size_setCell]; exact h2, by rw [World.cell?_setCell_far _ _ _ _ (Ne.symm (hl x hx))]; exact h3, by rw [World.frozen?_setCell]; exact h4⟩
/-- a store into a cell that the state names: it stands first then -/
theorem St.put (h : St l B a len cap w0 W) (g j : Nat) (v u : Value) (hg : (g, j, v) ∈ l) : St ((g, j, u) :: l.filter (fun x => !(x.1 == g && x.2.1 == j))) B a len cap w0 (W.setCell ⟨g, j, none⟩ u) := by
  have hB := h.lt
  obtain ⟨g1, g2, g3, g4⟩ := h.1 _ hg
  refine ⟨fun x hx => ?_, h.2.1, h.2.2.1.set1 (by simp at g1; omega) (fun hl x hx e => by have := h.2.1.low hl x hx; simp at g1; omega), grown_set_new h.2.2.2 g1 u⟩
  rcases List.mem_cons.1 hx with e | hx
  · rw [e]
    exact ⟨g1, by rw [World.size_setCell]; exact g2, World.cell?_setCell_same _ _ _ g3, by rw [World.frozen?_setCell]; exact g4⟩
  · obtain ⟨hx, hne⟩ := List.mem_filter.1 hx
    obtain ⟨h1, h2, h3, h4⟩ := h.1 x hx
    refine ⟨h1, by rw [World.size_setCell]; exact h2, ?_, by rw [World.frozen?_setCell]; exact h4⟩
    rw [World.cell?_setCell_other _ _ _ _ (by intro e; simp at e; simp [e.1, e.2] at hne)]
    exact h3
theorem World.cell?_setCell_at (w : World) (g i j : Nat) (u v : Value) (h : w.cell? ⟨g, j, none⟩ = some v) : (w.setCell ⟨g, i, none⟩ u).cell? ⟨g, j, none⟩ = some (if i = j then u else v) := by
  by_cases e : i = j
  · subst e; simp [World.cell?_setCell_same _ _ _ h]
  · rw [World.cell?_setCell_other _ _ _ _ (by simp [e]), h]; simp [e]
theorem St.at (h : St l B a len cap w0 W) (b o : Nat) (v : Value) (hx : (b, o, v) ∈ l) : W.cell? ⟨b, o, none⟩ = some v ∧ W.frozen? ⟨b, o, none⟩ = false := ⟨(h.1 _ hx).2.2.1, (h.1 _ hx).2.2.2⟩
theorem St.szl (h : St l B a len cap w0 W) (b o : Nat) (v : Value) (hx : (b, o, v) ∈ l) : w0.heap.size ≤ b ∧ b < W.heap.size := ⟨(h.1 _ hx).1, (h.1 _ hx).2.1⟩
theorem St.cons (h : St l B a len cap w0 W) (b o : Nat) (v : Value) (h1 : w0.heap.size ≤ b) (h2 : b < W.heap.size) (h3 : W.cell? ⟨b, o, none⟩ = some v) (h4 : W.frozen? ⟨b, o, none⟩ = false) : St ((b, o, v) :: l) B a len cap w0 W := by
  refine ⟨fun x hx => (List.mem_cons.1 hx).elim (fun e => ?_) (h.1 x), h.2⟩
  rw [e]
  exact ⟨h1, h2, h3, h4⟩
theorem St.box1 (h : St l B a len cap w0 W) (v0 : Value) (T : TypeId) : St ((W.heap.size, 0, v0) :: l) B a len cap w0 (W.alloc (.cells #[v0] T)) := St.more (h.alloc _) (fr_new W [v0] T) h.le 0 v0 rfl
theorem St.box2 (h : St l B a len cap w0 W) (v0 v1 : Value) (T : TypeId) : St ((W.heap.size, 0, v0) ::(W.heap.size, 1, v1) :: l) B a len cap w0 (W.alloc (.cells #[v0, v1] T)) := St.more (St.more (h.alloc _) (fr_new W [v0, v1] T) h.le 1 v1 rfl) (fr_new W [v0, v1] T) h.le 0 v0 rfl
theorem St.box3 (h : St l B a len cap w0 W) (v0 v1 v2 : Value) (T : TypeId) : St ((W.heap.size, 0, v0) ::(W.heap.size, 1, v1) ::(W.heap.size, 2, v2) :: l) B a len cap w0 (W.alloc (.cells #[v0, v1, v2] T)) := St.more (St.more (St.more (h.alloc _) (fr_new W [v0, v1, v2] T) h.le 2 v2 rfl) (fr_new W [v0, v1, v2] T) h.le 1 v1 rfl) (fr_new W [v0, v1, v2] T) h.le 0 v0 rfl
theorem St.box4 (h : St l B a len cap w0 W) (v0 v1 v2 v3 : Value) (T : TypeId) : St ((W.heap.size, 0, v0) ::(W.heap.size, 1, v1) ::(W.heap.size, 2, v2) ::(W.heap.size, 3, v3) :: l) B a len cap w0 (W.alloc (.cells #[v0, v1, v2, v3] T)) := St.more (St.more (St.more (St.more (h.alloc _) (fr_new W [v0, v1, v2, v3] T) h.le 3 v3 rfl) (fr_new W [v0, v1, v2, v3] T) h.le 2 v2 rfl) (fr_new W [v0, v1, v2, v3] T) h.le 1 v1 rfl) (fr_new W [v0, v1, v2, v3] T) h.le 0 v0 rfl
theorem St.box5 (h : St l B a len cap w0 W) (v0 v1 v2 v3 v4 : Value) (T : TypeId) : St ((W.heap.size, 0, v0) ::(W.heap.size, 1, v1) ::(W.heap.size, 2, v2) ::(W.heap.size, 3, v3) ::(W.heap.size, 4, v4) :: l) B a len cap w0 (W.alloc (.cells #[v0, v1, v2, v3, v4] T)) := St.more (St.more (St.more (St.more (St.more (h.alloc _) (fr_new W [v0, v1, v2, v3, v4] T) h.le 4 v4 rfl) (fr_new W [v0, v1, v2, v3, v4] T) h.le 3 v3 rfl) (fr_new W [v0, v1, v2, v3, v4] T) h.le 2 v2 rfl) (fr_new W [v0, v1, v2, v3, v4] T) h.le 1 v1 rfl) (fr_new W [v0, v1, v2, v3, v4] T) h.le 0 v0 rfl
theorem St.box6 (h : St l B a len cap w0 W) (v0 v1 v2 v3 v4 v5 : Value) (T : TypeId) : St ((W.heap.size, 0, v0) ::(W.heap.size, 1, v1) ::(W.heap.size, 2, v2) ::(W.heap.size, 3, v3) ::(W.heap.size, 4, v4) ::(W.heap.size, 5, v5) :: l) B a len cap w0 (W.alloc (.cells #[v0, v1, v2, v3, v4, v5] T)) := St.more (St.more (St.more (St.more (St.more (St.more (h.alloc _) (fr_new W [v0, v1, v2, v3, v4, v5] T) h.le 5 v5 rfl) (fr_new W [v0, v1, v2, v3, v4, v5] T) h.le 4 v4 rfl) (fr_new W [v0, v1, v2, v3, v4, v5] T) h.le 3 v3 rfl) (fr_new W [v0, v1, v2, v3, v4, v5] T) h.le 2 v2 rfl) (fr_new W [v0, v1, v2, v3, v4, v5] T) h.le 1 v1 rfl) (fr_new W [v0, v1, v2, v3, v4, v5] T) h.le 0 v0 rfl
theorem St.box7 (h : St l B a len cap w0 W) (v0 v1 v2 v3 v4 v5 v6 : Value) (T : TypeId) : St ((W.heap.size, 0, v0) ::(W.heap.size, 1, v1) ::(W.heap.size, 2, v2) ::(W.heap.size, 3, v3) ::(W.heap.size, 4, v4) ::(W.heap.size, 5, v5) ::(W.heap.size, 6, v6) :: l) B a len cap w0 (W.alloc (.cells #[v0, v1, v2, v3, v4, v5, v6] T)) := St.more (St.more (St.more (St.more (St.more (St.more (St.more (h.alloc _) (fr_new W [v0, v1, v2, v3, v4, v5, v6] T) h.le 6 v6 rfl) (fr_new W [v0, v1, v2, v3, v4, v5, v6] T) h.le 5 v5 rfl) (fr_new W [v0, v1, v2, v3, v4, v5, v6] T) h.le 4 v4 rfl) (fr_new W [v0, v1, v2, v3, v4, v5, v6] T) h.le 3 v3 rfl) (fr_new W [v0, v1, v2, v3, v4, v5, v6] T) h.le 2 v2 rfl) (fr_new W [v0, v1, v2, v3, v4, v5, v6] T) h.le 1 v1 rfl) (fr_new W [v0, v1, v2, v3, v4, v5, v6] T) h.le 0 v0 rfl
theorem St.box8 (h : St l B a len cap w0 W) (v0 v1 v2 v3 v4 v5 v6 v7 : Value) (T : TypeId) : St ((W.heap.size, 0, v0) ::(W.heap.size, 1, v1) ::(W.heap.size, 2, v2) ::(W.heap.size, 3, v3) ::(W.heap.size, 4, v4) ::(W.heap.size, 5, v5) ::(W.heap.size, 6, v6) ::(W.heap.size, 7, v7) :: l) B a len cap w0 (W.alloc (.cells #[v0, v1, v2, v3, v4, v5, v6, v7] T)) := St.more (St.more (St.more (St.more (St.more (St.more (St.more (St.more (h.alloc _) (fr_new W [v0, v1, v2, v3, v4, v5, v6, v7] T) h.le 7 v7 rfl) (fr_new W [v0, v1, v2, v3, v4, v5, v6, v7] T) h.le 6 v6 rfl) (fr_new W [v0, v1, v2, v3, v4, v5, v6, v7] T) h.le 5 v5 rfl) (fr_new W [v0, v1, v2, v3, v4, v5, v6, v7] T) h.le 4 v4 rfl) (fr_new W [v0, v1, v2, v3, v4, v5, v6, v7] T) h.le 3 v3 rfl) (fr_new W [v0, v1, v2, v3, v4, v5, v6, v7] T) h.le 2 v2 rfl) (fr_new W [v0, v1, v2, v3, v4, v5, v6, v7] T) h.le 1 v1 rfl) (fr_new W [v0, v1, v2, v3, v4, v5, v6, v7] T) h.le 0 v0 rfl
theorem St.store1 {g : Nat} {u0 v0 : Value} (h : St ((g, 0, v0) :: l) B a len cap w0 W) (hl : ∀ x ∈ l, x.1 ≠ g) : St ((g, 0, u0) :: l) B a len cap w0 (W.setCell ⟨g, 0, none⟩ u0) := by
  obtain ⟨c0, f0⟩ := h.at g 0 v0 (by simp)
  obtain ⟨hg, hlt⟩ := h.szl g 0 v0 (by simp)
  have hh := ((St.fewer (h)).set g 0 u0 hg hl)
  exact (hh).cons g 0 u0 hg (by simpa using hlt) (by simp (maxDischargeDepth := 30) [World.cell?_setCell_at, c0]) (by simp [f0])
theorem St.store2 {g : Nat} {u0 u1 v0 v1 : Value} (h : St ((g, 0, v0) ::(g, 1, v1) :: l) B a len cap w0 W) (hl : ∀ x ∈ l, x.1 ≠ g) : St ((g, 0, u0) ::(g, 1, u1) :: l) B a len cap w0 ((W.setCell ⟨g, 0, none⟩ u0).setCell ⟨g, 1, none⟩ u1) := by
  obtain ⟨c0, f0⟩ := h.at g 0 v0 (by simp)
  obtain ⟨c1, f1⟩ := h.at g 1 v1 (by simp)
  obtain ⟨hg, hlt⟩ := h.szl g 0 v0 (by simp)
  have hh := (((St.fewer (St.fewer (h))).set g 0 u0 hg hl).set g 1 u1 hg hl)
  exact ((hh).cons g 1 u1 hg (by simpa using hlt) (by simp (maxDischargeDepth := 30) [World.cell?_setCell_at, c0, c1]) (by simp [f0, f1])).cons g 0 u0 hg (by simpa using hlt) (by simp (maxDischargeDepth := 30) [World.cell?_setCell_at, c0, c1]) (by simp [f0, f1])
theorem St.store3 {g : Nat} {u0 u1 u2 v0 v1 v2 : Value} (h : St ((g, 0, v0) ::(g, 1, v1) ::(g, 2, v2) :: l) B a len cap w0 W) (hl : ∀ x ∈ l, x.1 ≠ g) : St ((g, 0, u0) ::(g, 1, u1) ::(g, 2, u2) :: l) B a len cap w0 (((W.setCell ⟨g, 0, none⟩ u0).setCell ⟨g, 1, none⟩ u1).setCell ⟨g, 2, none⟩ u2) := by
  obtain ⟨c0, f0⟩ := h.at g 0 v0 (by simp)
  obtain ⟨c1, f1⟩ := h.at g 1 v1 (by simp)
  obtain ⟨c2, f2⟩ := h.at g 2 v2 (by simp)
  obtain ⟨hg, hlt⟩ := h.szl g 0 v0 (by simp)
  have hh := ((((St.fewer (St.fewer (St.fewer (h)))).set g 0 u0 hg hl).set g 1 u1 hg hl).set g 2 u2 hg hl)
  exact (((hh).cons g 2 u2 hg (by simpa using hlt) (by simp (maxDischargeDepth := 30) [World.cell?_setCell_at, c0, c1, c2]) (by simp [f0, f1, f2])).cons g 1 u1 hg (by simpa using hlt) (by simp (maxDischargeDepth := 30) [World.cell?_setCell_at, c0, c1, c2]) (by simp [f0, f1, f2])).cons g 0 u0 hg (by simpa using hlt) (by simp (maxDischargeDepth := 30) [World.cell?_setCell_at, c0, c1, c2]) (by simp [f0, f1, f2])
theorem St.store4 {g : Nat} {u0 u1 u2 u3 v0 v1 v2 v3 : Value} (h : St ((g, 0, v0) ::(g, 1, v1) ::(g, 2, v2) ::(g, 3, v3) :: l) B a len cap w0 W) (hl : ∀ x ∈ l, x.1 ≠ g) : St ((g, 0, u0) ::(g, 1, u1) ::(g, 2, u2) ::(g, 3, u3) :: l) B a len cap w0 ((((W.setCell ⟨g, 0, none⟩ u0).setCell ⟨g, 1, none⟩ u1).setCell ⟨g, 2, none⟩ u2).setCell ⟨g, 3, none⟩ u3) := by
  obtain ⟨c0, f0⟩ := h.at g 0 v0 (by simp)
  obtain ⟨c1, f1⟩ := h.at g 1 v1 (by simp)
  obtain ⟨c2, f2⟩ := h.at g 2 v2 (by simp)
  obtain ⟨c3, f3⟩ := h.at g 3 v3 (by simp)
  obtain ⟨hg, hlt⟩ := h.szl g 0 v0 (by simp)
  have hh := (((((St.fewer (St.fewer (St.fewer (St.fewer (h))))).set g 0 u0 hg hl).set g 1 u1 hg hl).set g 2 u2 hg hl).set g 3 u3 hg hl)
  exact ((((hh).cons g 3 u3 hg (by simpa using hlt) (by simp (maxDischargeDepth := 30) [World.cell?_setCell_at, c0, c1, c2, c3]) (by simp [f0, f1, f2, f3])).cons g 2 u2 hg (by simpa using hlt) (by simp (maxDischargeDepth := 30) [World.cell?_setCell_at, c0, c1, c2, c3]) (by simp [f0, f1, f2, f3])).cons g 1 u1 hg (by simpa using hlt) (by simp (maxDischargeDepth := 30) [World.cell?_setCell_at, c0, c1, c2, c3]) (by simp [f0, f1, f2, f3])).cons g 0 u0 hg (by simpa using hlt) (by simp (maxDischargeDepth := 30) [World.cell?_setCell_at, c0, c1, c2, c3]) (by simp [f0, f1, f2, f3])
theorem St.store5 {g : Nat} {u0 u1 u2 u3 u4 v0 v1 v2 v3 v4 : Value} (h : St ((g, 0, v0) ::(g, 1, v1) ::(g, 2, v2) ::(g, 3, v3) ::(g, 4, v4) :: l) B a len cap w0 W) (hl : ∀ x ∈ l, x.1 ≠ g) : St ((g, 0, u0) ::(g, 1, u1) ::(g, 2, u2) ::(g, 3, u3) ::(g, 4, u4) :: l) B a len cap w0 (((((W.setCell ⟨g, 0, none⟩ u0).setCell ⟨g, 1, none⟩ u1).setCell ⟨g, 2, none⟩ u2).setCell ⟨g, 3, none⟩ u3).setCell ⟨g, 4, none⟩ u4) := by
  obtain ⟨c0, f0⟩ := h.at g 0 v0 (by simp)
  obtain ⟨c1, f1⟩ := h.at g 1 v1 (by simp)
  obtain ⟨c2, f2⟩ := h.at g 2 v2 (by simp)
  obtain ⟨c3, f3⟩ := h.at g 3 v3 (by simp)
  obtain ⟨c4, f4⟩ := h.at g 4 v4 (by simp)
  obtain ⟨hg, hlt⟩ := h.szl g 0 v0 (by simp)
  have hh := ((((((St.fewer (St.fewer (St.fewer (St.fewer (St.fewer (h)))))).set g 0 u0 hg hl).set g 1 u1 hg hl).set g 2 u2 hg hl).set g 3 u3 hg hl).set g 4 u4 hg hl)
  exact (((((hh).cons g 4 u4 hg (by simpa using hlt) (by simp (maxDischargeDepth := 30) [World.cell?_setCell_at, c0, c1, c2, c3, c4]) (by simp [f0, f1, f2, f3, f4])).cons g 3 u3 hg (by simpa using hlt) (by simp (maxDischargeDepth := 30) [World.cell?_setCell_at, c0, c1, c2, c3, c4]) (by simp [f0, f1, f2, f3, f4])).cons g 2 u2 hg (by simpa using hlt) (by simp (maxDischargeDepth := 30) [World.cell?_setCell_at, c0, c1, c2, c3, c4]) (by simp [f0, f1, f2, f3, f4])).cons g 1 u1 hg (by simpa using hlt) (by simp (maxDischargeDepth := 30) [World.cell?_setCell_at, c0, c1, c2, c3, c4]) (by simp [f0, f1, f2, f3, f4])).cons g 0 u0 hg (by simpa using hlt) (by simp (maxDischargeDepth := 30) [World.cell?_setCell_at, c0, c1, c2, c3, c4]) (by simp [f0, f1, f2, f3, f4])
theorem St.store6 {g : Nat} {u0 u1 u2 u3 u4 u5 v0 v1 v2 v3 v4 v5 : Value} (h : St ((g, 0, v0) ::(g, 1, v1) ::(g, 2, v2) ::(g, 3, v3) ::(g, 4, v4) ::(g, 5, v5) :: l) B a len cap w0 W) (hl : ∀ x ∈ l, x.1 ≠ g) : St ((g, 0, u0) ::(g, 1, u1) ::(g, 2, u2) ::(g, 3, u3) ::(g, 4, u4) ::(g, 5, u5) :: l) B a len cap w0 ((((((W.setCell ⟨g, 0, none⟩ u0).setCell ⟨g, 1, none⟩ u1).setCell ⟨g, 2, none⟩ u2).setCell ⟨g, 3, none⟩ u3).setCell ⟨g, 4, none⟩ u4).setCell ⟨g, 5, none⟩ u5) := by
  obtain ⟨c0, f0⟩ := h.at g 0 v0 (by simp)
  obtain ⟨c1, f1⟩ := h.at g 1 v1 (by simp)
  obtain ⟨c2, f2⟩ := h.at g 2 v2 (by simp)
  obtain ⟨c3, f3⟩ := h.at g 3 v3 (by simp)
  obtain ⟨c4, f4⟩ := h.at g 4 v4 (by simp)
  obtain ⟨c5, f5⟩ := h.at g 5 v5 (by simp)
  obtain ⟨hg, hlt⟩ := h.szl g 0 v0 (by simp)
  have hh := (((((((St.fewer (St.fewer (St.fewer (St.fewer (St.fewer (St.fewer (h))))))).set g 0 u0 hg hl).set g 1 u1 hg hl).set g 2 u2 hg hl).set g 3 u3 hg hl).set g 4 u4 hg hl).set g 5 u5 hg hl)
  exact ((((((hh).cons g 5 u5 hg (by simpa using hlt) (by simp (maxDischargeDepth := 30) [World.cell?_setCell_at, c0, c1, c2, c3, c4, c5]) (by simp [f0, f1, f2, f3, f4, f5])).cons g 4 u4 hg (by simpa using hlt) (by simp (maxDischargeDepth := 30) [World.cell?_setCell_at, c0, c1, c2, c3, c4, c5]) (by simp [f0, f1, f2, f3, f4, f5])).cons g 3 u3 hg (by simpa using hlt) (by simp (maxDischargeDepth := 30) [World.cell?_setCell_at, c0, c1, c2, c3, c4, c5]) (by simp [f0, f1, f2, f3, f4, f5])).cons g 2 u2 hg (by simpa using hlt) (by simp (maxDischargeDepth := 30) [World.cell?_setCell_at, c0, c1, c2, c3, c4, c5]) (by simp [f0, f1, f2, f3, f4, f5])).cons g 1 u1 hg (by simpa using hlt) (by simp (maxDischargeDepth := 30) [World.cell?_setCell_at, c0, c1, c2, c3, c4, c5]) (by simp [f0, f1, f2, f3, f4, f5])).cons g 0 u0 hg (by simpa using hlt) (by simp (maxDischargeDepth := 30) [World.cell?_setCell_at, c0, c1, c2, c3, c4, c5]) (by simp [f0, f1, f2, f3, f4, f5])
theorem St.store7 {g : Nat} {u0 u1 u2 u3 u4 u5 u6 v0 v1 v2 v3 v4 v5 v6 : Value} (h : St ((g, 0, v0) ::(g, 1, v1) ::(g, 2, v2) ::(g, 3, v3) ::(g, 4, v4) ::(g, 5, v5) ::(g, 6, v6) :: l) B a len cap w0 W) (hl : ∀ x ∈ l, x.1 ≠ g) : St ((g, 0, u0) ::(g, 1, u1) ::(g, 2, u2) ::(g, 3, u3) ::(g, 4, u4) ::(g, 5, u5) ::(g, 6, u6) :: l) B a len cap w0 (((((((W.setCell ⟨g, 0, none⟩ u0).setCell ⟨g, 1, none⟩ u1).setCell ⟨g, 2, none⟩ u2).setCell ⟨g, 3, none⟩ u3).setCell ⟨g, 4, none⟩ u4).setCell ⟨g, 5, none⟩ u5).setCell ⟨g, 6, none⟩ u6) := by
  obtain ⟨c0, f0⟩ := h.at g 0 v0 (by simp)
  obtain ⟨c1, f1⟩ := h.at g 1 v1 (by simp)
  obtain ⟨c2, f2⟩ := h.at g 2 v2 (by simp)
  obtain ⟨c3, f3⟩ := h.at g 3 v3 (by simp)
  obtain ⟨c4, f4⟩ := h.at g 4 v4 (by simp)
  obtain ⟨c5, f5⟩ := h.at g 5 v5 (by simp)
  obtain ⟨c6, f6⟩ := h.at g 6 v6 (by simp)
  obtain ⟨hg, hlt⟩ := h.szl g 0 v0 (by simp)
  have hh := ((((((((St.fewer (St.fewer (St.fewer (St.fewer (St.fewer (St.fewer (St.fewer (h)))))))).set g 0 u0 hg hl).set g 1 u1 hg hl).set g 2 u2 hg hl).set g 3 u3 hg hl).set g 4 u4 hg hl).set g 5 u5 hg hl).set g 6 u6 hg hl)
  exact (((((((hh).cons g 6 u6 hg (by simpa using hlt) (by simp (maxDischargeDepth := 30) [World.cell?_setCell_at, c0, c1, c2, c3, c4, c5, c6]) (by simp [f0, f1, f2, f3, f4, f5, f6])).cons g 5 u5 hg (by simpa using hlt) (by simp (maxDischargeDepth := 30) [World.cell?_setCell_at, c0, c1, c2, c3, c4, c5, c6]) (by simp [f0, f1, f2, f3, f4, f5, f6])).cons g 4 u4 hg (by simpa using hlt) (by simp (maxDischargeDepth := 30) [World.cell?_setCell_at, c0, c1, c2, c3, c4, c5, c6]) (by simp [f0, f1, f2, f3, f4, f5, f6])).cons g 3 u3 hg (by simpa using hlt) (by simp (maxDischargeDepth := 30) [World.cell?_setCell_at, c0, c1, c2, c3, c4, c5, c6]) (by simp [f0, f1, f2, f3, f4, f5, f6])).cons g 2 u2 hg (by simpa using hlt) (by simp (maxDischargeDepth := 30) [World.cell?_setCell_at, c0, c1, c2, c3, c4, c5, c6]) (by simp [f0, f1, f2, f3, f4, f5, f6])).cons g 1 u1 hg (by simpa using hlt) (by simp (maxDischargeDepth := 30) [World.cell?_setCell_at, c0, c1, c2, c3, c4, c5, c6]) (by simp [f0, f1, f2, f3, f4, f5, f6])).cons g 0 u0 hg (by simpa using hlt) (by simp (maxDischargeDepth := 30) [World.cell?_setCell_at, c0, c1, c2, c3, c4, c5, c6]) (by simp [f0, f1, f2, f3, f4, f5, f6])
theorem St.store8 {g : Nat} {u0 u1 u2 u3 u4 u5 u6 u7 v0 v1 v2 v3 v4 v5 v6 v7 : Value} (h : St ((g, 0, v0) ::(g, 1, v1) ::(g, 2, v2) ::(g, 3, v3) ::(g, 4, v4) ::(g, 5, v5) ::(g, 6, v6) ::(g, 7, v7) :: l) B a len cap w0 W) (hl : ∀ x ∈ l, x.1 ≠ g) : St ((g, 0, u0) ::(g, 1, u1) ::(g, 2, u2) ::(g, 3, u3) ::(g, 4, u4) ::(g, 5, u5) ::(g, 6, u6) ::(g, 7, u7) :: l) B a len cap w0 ((((((((W.setCell ⟨g, 0, none⟩ u0).setCell ⟨g, 1, none⟩ u1).setCell ⟨g, 2, none⟩ u2).setCell ⟨g, 3, none⟩ u3).setCell ⟨g, 4, none⟩ u4).setCell ⟨g, 5, none⟩ u5).setCell ⟨g, 6, none⟩ u6).setCell ⟨g, 7, none⟩ u7) := by
  obtain ⟨c0, f0⟩ := h.at g 0 v0 (by simp)
  obtain ⟨c1, f1⟩ := h.at g 1 v1 (by simp)
  obtain ⟨c2, f2⟩ := h.at g 2 v2 (by simp)
  obtain ⟨c3, f3⟩ := h.at g 3 v3 (by simp)
  obtain ⟨c4, f4⟩ := h.at g 4 v4 (by simp)
  obtain ⟨c5, f5⟩ := h.at g 5 v5 (by simp)
  obtain ⟨c6, f6⟩ := h.at g 6 v6 (by simp)
  obtain ⟨c7, f7⟩ := h.at g 7 v7 (by simp)
  obtain ⟨hg, hlt⟩ := h.szl g 0 v0 (by simp)
  have hh := (((((((((St.fewer (St.fewer (St.fewer (St.fewer (St.fewer (St.fewer (St.fewer (St.fewer (h))))))))).set g 0 u0 hg hl).set g 1 u1 hg hl).set g 2 u2 hg hl).set g 3 u3 hg hl).set g 4 u4 hg hl).set g 5 u5 hg hl).set g 6 u6 hg hl).set g 7 u7 hg hl)
  exact ((((((((hh).cons g 7 u7 hg (by simpa using hlt) (by simp (maxDischargeDepth := 30) [World.cell?_setCell_at, c0, c1, c2, c3, c4, c5, c6, c7]) (by simp [f0, f1, f2, f3, f4, f5, f6, f7])).cons g 6 u6 hg (by simpa using hlt) (by simp (maxDischargeDepth := 30) [World.cell?_setCell_at, c0, c1, c2, c3, c4, c5, c6, c7]) (by simp [f0, f1, f2, f3, f4, f5, f6, f7])).cons g 5 u5 hg (by simpa using hlt) (by simp (maxDischargeDepth := 30) [World.cell?_setCell_at, c0, c1, c2, c3, c4, c5, c6, c7]) (by simp [f0, f1, f2, f3, f4, f5, f6, f7])).cons g 4 u4 hg (by simpa using hlt) (by simp (maxDischargeDepth := 30) [World.cell?_setCell_at, c0, c1, c2, c3, c4, c5, c6, c7]) (by simp [f0, f1, f2, f3, f4, f5, f6, f7])).cons g 3 u3 hg (by simpa using hlt) (by simp (maxDischargeDepth := 30) [World.cell?_setCell_at, c0, c1, c2, c3, c4, c5, c6, c7]) (by simp [f0, f1, f2, f3, f4, f5, f6, f7])).cons g 2 u2 hg (by simpa using hlt) (by simp (maxDischargeDepth := 30) [World.cell?_setCell_at, c0, c1, c2, c3, c4, c5, c6, c7]) (by simp [f0, f1, f2, f3, f4, f5, f6, f7])).cons g 1 u1 hg (by simpa using hlt) (by simp (maxDischargeDepth := 30) [World.cell?_setCell_at, c0, c1, c2, c3, c4, c5, c6, c7]) (by simp [f0, f1, f2, f3, f4, f5, f6, f7])).cons g 0 u0 hg (by simpa using hlt) (by simp (maxDischargeDepth := 30) [World.cell?_setCell_at, c0, c1, c2, c3, c4, c5, c6, c7]) (by simp [f0, f1, f2, f3, f4, f5, f6, f7])
end
theorem St.s1 {b0 o0 : Nat} {v0 : Value} {B : Nat} {a : Option Addr} {len cap : Nat} {w0 w : World} (h : St [(b0, o0, v0)] B a len cap w0 w) : w.cell? ⟨b0, o0, none⟩ = some v0 ∧ w.frozen? ⟨b0, o0, none⟩ = false := ⟨(h.at b0 o0 v0 (by simp)).1, (h.at b0 o0 v0 (by simp)).2⟩
theorem St.s2 {b0 o0 b1 o1 : Nat} {v0 v1 : Value} {B : Nat} {a : Option Addr} {len cap : Nat} {w0 w : World} (h : St [(b0, o0, v0), (b1, o1, v1)] B a len cap w0 w) : w.cell? ⟨b0, o0, none⟩ = some v0 ∧ w.frozen? ⟨b0, o0, none⟩ = false ∧ w.cell? ⟨b1, o1, none⟩ = some v1 ∧ w.frozen? ⟨b1, o1, none⟩ = false := ⟨(h.at b0 o0 v0 (by simp)).1, (h.at b0 o0 v0 (by simp)).2, (h.at b1 o1 v1 (by simp)).1, (h.at b1 o1 v1 (by simp)).2⟩
theorem St.s3 {b0 o0 b1 o1 b2 o2 : Nat} {v0 v1 v2 : Value} {B : Nat} {a : Option Addr} {len cap : Nat} {w0 w : World} (h : St [(b0, o0, v0), (b1, o1, v1), (b2, o2, v2)] B a len cap w0 w) : w.cell? ⟨b0, o0, none⟩ = some v0 ∧ w.frozen? ⟨b0, o0, none⟩ = false ∧ w.cell? ⟨b1, o1, none⟩ = some v1 ∧ w.frozen? ⟨b1, o1, none⟩ = false ∧ w.cell? ⟨b2, o2, none⟩ = some v2 ∧ w.frozen? ⟨b2, o2, none⟩ = false := ⟨(h.at b0 o0 v0 (by simp)).1, (h.at b0 o0 v0 (by simp)).2, (h.at b1 o1 v1 (by simp)).1, (h.at b1 o1 v1 (by simp)).2, (h.at b2 o2 v2 (by simp)).1, (h.at b2 o2 v2 (by simp)).2⟩
theorem St.s4 {b0 o0 b1 o1 b2 o2 b3 o3 : Nat} {v0 v1 v2 v3 : Value} {B : Nat} {a : Option Addr} {len cap : Nat} {w0 w : World} (h : St [(b0, o0, v0), (b1, o1, v1), (b2, o2, v2), (b3, o3, v3)] B a len cap w0 w) : w.cell? ⟨b0, o0, none⟩ = some v0 ∧ w.frozen? ⟨b0, o0, none⟩ = false ∧ w.cell? ⟨b1, o1, none⟩ = some v1 ∧ w.frozen? ⟨b1, o1, none⟩ = false ∧ w.cell? ⟨b2, o2, none⟩ = some v2 ∧ w.frozen? ⟨b2, o2, none⟩ = false ∧ w.cell? ⟨b3, o3, none⟩ = some v3 ∧ w.frozen? ⟨b3, o3, none⟩ = false := ⟨(h.at b0 o0 v0 (by simp)).1, (h.at b0 o0 v0 (by simp)).2, (h.at b1 o1 v1 (by simp)).1, (h.at b1 o1 v1 (by simp)).2, (h.at b2 o2 v2 (by simp)).1, (h.at b2 o2 v2 (by simp)).2, (h.at b3 o3 v3 (by simp)).1, (h.at b3 o3 v3 (by simp)).2⟩
theorem St.s5 {b0 o0 b1 o1 b2 o2 b3 o3 b4 o4 : Nat} {v0 v1 v2 v3 v4 : Value} {B : Nat} {a : Option Addr} {len cap : Nat} {w0 w : World} (h : St [(b0, o0, v0), (b1, o1, v1), (b2, o2, v2), (b3, o3, v3), (b4, o4, v4)] B a len cap w0 w) : w.cell? ⟨b0, o0, none⟩ = some v0 ∧ w.frozen? ⟨b0, o0, none⟩ = false ∧ w.cell? ⟨b1, o1, none⟩ = some v1 ∧ w.frozen? ⟨b1, o1, none⟩ = false ∧ w.cell? ⟨b2, o2, none⟩ = some v2 ∧ w.frozen? ⟨b2, o2, none⟩ = false ∧ w.cell? ⟨b3, o3, none⟩ = some v3 ∧ w.frozen? ⟨b3, o3, none⟩ = false ∧ w.cell? ⟨b4, o4, none⟩ = some v4 ∧ w.frozen? ⟨b4, o4, none⟩ = false := ⟨(h.at b0 o0 v0 (by simp)).1, (h.at b0 o0 v0 (by simp)).2, (h.at b1 o1 v1 (by simp)).1, (h.at b1 o1 v1 (by simp)).2, (h.at b2 o2 v2 (by simp)).1, (h.at b2 o2 v2 (by simp)).2, (h.at b3 o3 v3 (by simp)).1, (h.at b3 o3 v3 (by simp)).2, (h.at b4 o4 v4 (by simp)).1, (h.at b4 o4 v4 (by simp)).2⟩
theorem St.s6 {b0 o0 b1 o1 b2 o2 b3 o3 b4 o4 b5 o5 : Nat} {v0 v1 v2 v3 v4 v5 : Value} {B : Nat} {a : Option Addr} {len cap : Nat} {w0 w : World} (h : St [(b0, o0, v0), (b1, o1, v1), (b2, o2, v2), (b3, o3, v3), (b4, o4, v4), (b5, o5, v5)] B a len cap w0 w) : w.cell? ⟨b0, o0, none⟩ = some v0 ∧ w.frozen? ⟨b0, o0, none⟩ = false ∧ w.cell? ⟨b1, o1, none⟩ = some v1 ∧ w.frozen? ⟨b1, o1, none⟩ = false ∧ w.cell? ⟨b2, o2, none⟩ = some v2 ∧ w.frozen? ⟨b2, o2, none⟩ = false ∧ w.cell? ⟨b3, o3, none⟩ = some v3 ∧ w.frozen? ⟨b3, o3, none⟩ = false ∧ w.cell? ⟨b4, o4, none⟩ = some v4 ∧ w.frozen? ⟨b4, o4, none⟩ = false ∧ w.cell? ⟨b5, o5, none⟩ = some v5 ∧ w.frozen? ⟨b5, o5, none⟩ = false := ⟨(h.at b0 o0 v0 (by simp)).1, (h.at b0 o0 v0 (by simp)).2, (h.at b1 o1 v1 (by simp)).1, (h.at b1 o1 v1 (by simp)).2, (h.at b2 o2 v2 (by simp)).1, (h.at b2 o2 v2 (by simp)).2, (h.at b3 o3 v3 (by simp)).1, (h.at b3 o3 v3 (by simp)).2, (h.at b4 o4 v4 (by simp)).1, (h.at b4 o4 v4 (by simp)).2, (h.at b5 o5 v5 (by simp)).1, (h.at b5 o5 v5 (by simp)).2⟩
theorem St.s7 {b0 o0 b1 o1 b2 o2 b3 o3 b4 o4 b5 o5 b6 o6 : Nat} {v0 v1 v2 v3 v4 v5 v6 : Value} {B : Nat} {a : Option Addr} {len cap : Nat} {w0 w : World} (h : St [(b0, o0, v0), (b1, o1, v1), (b2, o2, v2), (b3, o3, v3), (b4, o4, v4), (b5, o5, v5), (b6, o6, v6)] B a len cap w0 w) : w.cell? ⟨b0, o0, none⟩ = some v0 ∧ w.frozen? ⟨b0, o0, none⟩ = false ∧ w.cell? ⟨b1, o1, none⟩ = some v1 ∧ w.frozen? ⟨b1, o1, none⟩ = false ∧ w.cell? ⟨b2, o2, none⟩ = some v2 ∧ w.frozen? ⟨b2, o2, none⟩ = false ∧ w.cell? ⟨b3, o3, none⟩ = some v3 ∧ w.frozen? ⟨b3, o3, none⟩ = false ∧ w.cell? ⟨b4, o4, none⟩ = some v4 ∧ w.frozen? ⟨b4, o4, none⟩ = false ∧ w.cell? ⟨b5, o5, none⟩ = some v5 ∧ w.frozen? ⟨b5, o5, none⟩ = false ∧ w.cell? ⟨b6, o6, none⟩ = some v6 ∧ w.frozen? ⟨b6, o6, none⟩ = false := ⟨(h.at b0 o0 v0 (by simp)).1, (h.at b0 o0 v0 (by simp)).2, (h.at b1 o1 v1 (by simp)).1, (h.at b1 o1 v1 (by simp)).2, (h.at b2 o2 v2 (by simp)).1, (h.at b2 o2 v2 (by simp)).2, (h.at b3 o3 v3 (by simp)).1, (h.at b3 o3 v3 (by simp)).2, (h.at b4 o4 v4 (by simp)).1, (h.at b4 o4 v4 (by simp)).2, (h.at b5 o5 v5 (by simp)).1, (h.at b5 o5 v5 (by simp)).2, (h.at b6 o6 v6 (by simp)).1, (h.at b6 o6 v6 (by simp)).2⟩
theorem St.s8 {b0 o0 b1 o1 b2 o2 b3 o3 b4 o4 b5 o5 b6 o6 b7 o7 : Nat} {v0 v1 v2 v3 v4 v5 v6 v7 : Value} {B : Nat} {a : Option Addr} {len cap : Nat} {w0 w : World} (h : St [(b0, o0, v0), (b1, o1, v1), (b2, o2, v2), (b3, o3, v3), (b4, o4, v4), (b5, o5, v5), (b6, o6, v6), (b7, o7, v7)] B a len cap w0 w) : w.cell? ⟨b0, o0, none⟩ = some v0 ∧ w.frozen? ⟨b0, o0, none⟩ = false ∧ w.cell? ⟨b1, o1, none⟩ = some v1 ∧ w.frozen? ⟨b1, o1, none⟩ = false ∧ w.cell? ⟨b2, o2, none⟩ = some v2 ∧ w.frozen? ⟨b2, o2, none⟩ = false ∧ w.cell? ⟨b3, o3, none⟩ = some v3 ∧ w.frozen? ⟨b3, o3, none⟩ = false ∧ w.cell? ⟨b4, o4, none⟩ = some v4 ∧ w.frozen? ⟨b4, o4, none⟩ = false ∧ w.cell? ⟨b5, o5, none⟩ = some v5 ∧ w.frozen? ⟨b5, o5, none⟩ = false ∧ w.cell? ⟨b6, o6, none⟩ = some v6 ∧ w.frozen? ⟨b6, o6, none⟩ = false ∧ w.cell? ⟨b7, o7, none⟩ = some v7 ∧ w.frozen? ⟨b7, o7, none⟩ = false := ⟨(h.at b0 o0 v0 (by simp)).1, (h.at b0 o0 v0 (by simp)).2, (h.at b1 o1 v1 (by simp)).1, (h.at b1 o1 v1 (by simp)).2, (h.at b2 o2 v2 (by simp)).1, (h.at b2 o2 v2 (by simp)).2, (h.at b3 o3 v3 (by simp)).1, (h.at b3 o3 v3 (by simp)).2, (h.at b4 o4 v4 (by simp)).1, (h.at b4 o4 v4 (by simp)).2, (h.at b5 o5 v5 (by simp)).1, (h.at b5 o5 v5 (by simp)).2, (h.at b6 o6 v6 (by simp)).1, (h.at b6 o6 v6 (by simp)).2, (h.at b7 o7 v7 (by simp)).1, (h.at b7 o7 v7 (by simp)).2⟩
theorem St.s9 {b0 o0 b1 o1 b2 o2 b3 o3 b4 o4 b5 o5 b6 o6 b7 o7 b8 o8 : Nat} {v0 v1 v2 v3 v4 v5 v6 v7 v8 : Value} {B : Nat} {a : Option Addr} {len cap : Nat} {w0 w : World} (h : St [(b0, o0, v0), (b1, o1, v1), (b2, o2, v2), (b3, o3, v3), (b4, o4, v4), (b5, o5, v5), (b6, o6, v6), (b7, o7, v7), (b8, o8, v8)] B a len cap w0 w) : w.cell? ⟨b0, o0, none⟩ = some v0 ∧ w.frozen? ⟨b0, o0, none⟩ = false ∧ w.cell? ⟨b1, o1, none⟩ = some v1 ∧ w.frozen? ⟨b1, o1, none⟩ = false ∧ w.cell? ⟨b2, o2, none⟩ = some v2 ∧ w.frozen? ⟨b2, o2, none⟩ = false ∧ w.cell? ⟨b3, o3, none⟩ = some v3 ∧ w.frozen? ⟨b3, o3, none⟩ = false ∧ w.cell? ⟨b4, o4, none⟩ = some v4 ∧ w.frozen? ⟨b4, o4, none⟩ = false ∧ w.cell? ⟨b5, o5, none⟩ = some v5 ∧ w.frozen? ⟨b5, o5, none⟩ = false ∧ w.cell? ⟨b6, o6, none⟩ = some v6 ∧ w.frozen? ⟨b6, o6, none⟩ = false ∧ w.cell? ⟨b7, o7, none⟩ = some v7 ∧ w.frozen? ⟨b7, o7, none⟩ = false ∧ w.cell? ⟨b8, o8, none⟩ = some v8 ∧ w.frozen? ⟨b8, o8, none⟩ = false := ⟨(h.at b0 o0 v0 (by simp)).1, (h.at b0 o0 v0 (by simp)).2, (h.at b1 o1 v1 (by simp)).1, (h.at b1 o1 v1 (by simp)).2, (h.at b2 o2 v2 (by simp)).1, (h.at b2 o2 v2 (by simp)).2, (h.at b3 o3 v3 (by simp)).1, (h.at b3 o3 v3 (by simp)).2, (h.at b4 o4 v4 (by simp)).1, (h.at b4 o4 v4 (by simp)).2, (h.at b5 o5 v5 (by simp)).1, (h.at b5 o5 v5 (by simp)).2, (h.at b6 o6 v6 (by simp)).1, (h.at b6 o6 v6 (by simp)).2, (h.at b7 o7 v7 (by simp)).1, (h.at b7 o7 v7 (by simp)).2, (h.at b8 o8 v8 (by simp)).1, (h.at b8 o8 v8 (by simp)).2⟩
theorem St.s10 {b0 o0 b1 o1 b2 o2 b3 o3 b4 o4 b5 o5 b6 o6 b7 o7 b8 o8 b9 o9 : Nat} {v0 v1 v2 v3 v4 v5 v6 v7 v8 v9 : Value} {B : Nat} {a : Option Addr} {len cap : Nat} {w0 w : World} (h : St [(b0, o0, v0), (b1, o1, v1), (b2, o2, v2), (b3, o3, v3), (b4, o4, v4), (b5, o5, v5), (b6, o6, v6), (b7, o7, v7), (b8, o8, v8), (b9, o9, v9)] B a len cap w0 w) : w.cell? ⟨b0, o0, none⟩ = some v0 ∧ w.frozen? ⟨b0, o0, none⟩ = false ∧ w.cell? ⟨b1, o1, none⟩ = some v1 ∧ w.frozen? ⟨b1, o1, none⟩ = false ∧ w.cell? ⟨b2, o2, none⟩ = some v2 ∧ w.frozen? ⟨b2, o2, none⟩ = false ∧ w.cell? ⟨b3, o3, none⟩ = some v3 ∧ w.frozen? ⟨b3, o3, none⟩ = false ∧ w.cell? ⟨b4, o4, none⟩ = some v4 ∧ w.frozen? ⟨b4, o4, none⟩ = false ∧ w.cell? ⟨b5, o5, none⟩ = some v5 ∧ w.frozen? ⟨b5, o5, none⟩ = false ∧ w.cell? ⟨b6, o6, none⟩ = some v6 ∧ w.frozen? ⟨b6, o6, none⟩ = false ∧ w.cell? ⟨b7, o7, none⟩ = some v7 ∧ w.frozen? ⟨b7, o7, none⟩ = false ∧ w.cell? ⟨b8, o8, none⟩ = some v8 ∧ w.frozen? ⟨b8, o8, none⟩ = false ∧ w.cell? ⟨b9, o9, none⟩ = some v9 ∧ w.frozen? ⟨b9, o9, none⟩ = false := ⟨(h.at b0 o0 v0 (by simp)).1, (h.at b0 o0 v0 (by simp)).2, (h.at b1 o1 v1 (by simp)).1, (h.at b1 o1 v1 (by simp)).2, (h.at b2 o2 v2 (by simp)).1, (h.at b2 o2 v2 (by simp)).2, (h.at b3 o3 v3 (by simp)).1, (h.at b3 o3 v3 (by simp)).2, (h.at b4 o4 v4 (by simp)).1, (h.at b4 o4 v4 (by simp)).2, (h.at b5 o5 v5 (by simp)).1, (h.at b5 o5 v5 (by simp)).2, (h.at b6 o6 v6 (by simp)).1, (h.at b6 o6 v6 (by simp)).2, (h.at b7 o7 v7 (by simp)).1, (h.at b7 o7 v7 (by simp)).2, (h.at b8 o8 v8 (by simp)).1, (h.at b8 o8 v8 (by simp)).2, (h.at b9 o9 v9 (by simp)).1, (h.at b9 o9 v9 (by simp)).2⟩
theorem St.s11 {b0 o0 b1 o1 b2 o2 b3 o3 b4 o4 b5 o5 b6 o6 b7 o7 b8 o8 b9 o9 b10 o10 : Nat} {v0 v1 v2 v3 v4 v5 v6 v7 v8 v9 v10 : Value} {B : Nat} {a : Option Addr} {len cap : Nat} {w0 w : World} (h : St [(b0, o0, v0), (b1, o1, v1), (b2, o2, v2), (b3, o3, v3), (b4, o4, v4), (b5, o5, v5), (b6, o6, v6), (b7, o7, v7), (b8, o8, v8), (b9, o9, v9), (b10, o10, v10)] B a len cap w0 w) : w.cell? ⟨b0, o0, none⟩ = some v0 ∧ w.frozen? ⟨b0, o0, none⟩ = false ∧ w.cell? ⟨b1, o1, none⟩ = some v1 ∧ w.frozen? ⟨b1, o1, none⟩ = false ∧ w.cell? ⟨b2, o2, none⟩ = some v2 ∧ w.frozen? ⟨b2, o2, none⟩ = false ∧ w.cell? ⟨b3, o3, none⟩ = some v3 ∧ w.frozen? ⟨b3, o3, none⟩ = false ∧ w.cell? ⟨b4, o4, none⟩ = some v4 ∧ w.frozen? ⟨b4, o4, none⟩ = false ∧ w.cell? ⟨b5, o5, none⟩ = some v5 ∧ w.frozen? ⟨b5, o5, none⟩ = false ∧ w.cell? ⟨b6, o6, none⟩ = some v6 ∧ w.frozen? ⟨b6, o6, none⟩ = false ∧ w.cell? ⟨b7, o7, none⟩ = some v7 ∧ w.frozen? ⟨b7, o7, none⟩ = false ∧ w.cell? ⟨b8, o8, none⟩ = some v8 ∧ w.frozen? ⟨b8, o8, none⟩ = false ∧ w.cell? ⟨b9, o9, none⟩ = some v9 ∧ w.frozen? ⟨b9, o9, none⟩ = false ∧ w.cell? ⟨b10, o10, none⟩ = some v10 ∧ w.frozen? ⟨b10, o10, none⟩ = false := ⟨(h.at b0 o0 v0 (by simp)).1, (h.at b0 o0 v0 (by simp)).2, (h.at b1 o1 v1 (by simp)).1, (h.at b1 o1 v1 (by simp)).2, (h.at b2 o2 v2 (by simp)).1, (h.at b2 o2 v2 (by simp)).2, (h.at b3 o3 v3 (by simp)).1, (h.at b3 o3 v3 (by simp)).2, (h.at b4 o4 v4 (by simp)).1, (h.at b4 o4 v4 (by simp)).2, (h.at b5 o5 v5 (by simp)).1, (h.at b5 o5 v5 (by simp)).2, (h.at b6 o6 v6 (by simp)).1, (h.at b6 o6 v6 (by simp)).2, (h.at b7 o7 v7 (by simp)).1, (h.at b7 o7 v7 (by simp)).2, (h.at b8 o8 v8 (by simp)).1, (h.at b8 o8 v8 (by simp)).2, (h.at b9 o9 v9 (by simp)).1, (h.at b9 o9 v9 (by simp)).2, (h.at b10 o10 v10 (by simp)).1, (h.at b10 o10 v10 (by simp)).2⟩
theorem St.s12 {b0 o0 b1 o1 b2 o2 b3 o3 b4 o4 b5 o5 b6 o6 b7 o7 b8 o8 b9 o9 b10 o10 b11 o11 : Nat} {v0 v1 v2 v3 v4 v5 v6 v7 v8 v9 v10 v11 : Value} {B : Nat} {a : Option Addr} {len cap : Nat} {w0 w : World} (h : St [(b0, o0, v0), (b1, o1, v1), (b2, o2, v2), (b3, o3, v3), (b4, o4, v4), (b5, o5, v5), (b6, o6, v6), (b7, o7, v7), (b8, o8, v8), (b9, o9, v9), (b10, o10, v10), (b11, o11, v11)] B a len cap w0 w) : w.cell? ⟨b0, o0, none⟩ = some v0 ∧ w.frozen? ⟨b0, o0, none⟩ = false ∧ w.cell? ⟨b1, o1, none⟩ = some v1 ∧ w.frozen? ⟨b1, o1, none⟩ = false ∧ w.cell? ⟨b2, o2, none⟩ = some v2 ∧ w.frozen? ⟨b2, o2, none⟩ = false ∧ w.cell? ⟨b3, o3, none⟩ = some v3 ∧ w.frozen? ⟨b3, o3, none⟩ = false ∧ w.cell? ⟨b4, o4, none⟩ = some v4 ∧ w.frozen? ⟨b4, o4, none⟩ = false ∧ w.cell? ⟨b5, o5, none⟩ = some v5 ∧ w.frozen? ⟨b5, o5, none⟩ = false ∧ w.cell? ⟨b6, o6, none⟩ = some v6 ∧ w.frozen? ⟨b6, o6, none⟩ = false ∧ w.cell? ⟨b7, o7, none⟩ = some v7 ∧ w.frozen? ⟨b7, o7, none⟩ = false ∧ w.cell? ⟨b8, o8, none⟩ = some v8 ∧ w.frozen? ⟨b8, o8, none⟩ = false ∧ w.cell? ⟨b9, o9, none⟩ = some v9 ∧ w.frozen? ⟨b9, o9, none⟩ = false ∧ w.cell? ⟨b10, o10, none⟩ = some v10 ∧ w.frozen? ⟨b10, o10, none⟩ = false ∧ w.cell? ⟨b11, o11, none⟩ = some v11 ∧ w.frozen? ⟨b11, o11, none⟩ = false := ⟨(h.at b0 o0 v0 (by simp)).1, (h.at b0 o0 v0 (by simp)).2, (h.at b1 o1 v1 (by simp)).1, (h.at b1 o1 v1 (by simp)).2, (h.at b2 o2 v2 (by simp)).1, (h.at b2 o2 v2 (by simp)).2, (h.at b3 o3 v3 (by simp)).1, (h.at b3 o3 v3 (by simp)).2, (h.at b4 o4 v4 (by simp)).1, (h.at b4 o4 v4 (by simp)).2, (h.at b5 o5 v5 (by simp)).1, (h.at b5 o5 v5 (by simp)).2, (h.at b6 o6 v6 (by simp)).1, (h.at b6 o6 v6 (by simp)).2, (h.at b7 o7 v7 (by simp)).1, (h.at b7 o7 v7 (by simp)).2, (h.at b8 o8 v8 (by simp)).1, (h.at b8 o8 v8 (by simp)).2, (h.at b9 o9 v9 (by simp)).1, (h.at b9 o9 v9 (by simp)).2, (h.at b10 o10 v10 (by simp)).1, (h.at b10 o10 v10 (by simp)).2, (h.at b11 o11 v11 (by simp)).1, (h.at b11 o11 v11 (by simp)).2⟩
theorem St.s13 {b0 o0 b1 o1 b2 o2 b3 o3 b4 o4 b5 o5 b6 o6 b7 o7 b8 o8 b9 o9 b10 o10 b11 o11 b12 o12 : Nat} {v0 v1 v2 v3 v4 v5 v6 v7 v8 v9 v10 v11 v12 : Value} {B : Nat} {a : Option Addr} {len cap : Nat} {w0 w : World} (h : St [(b0, o0, v0), (b1, o1, v1), (b2, o2, v2), (b3, o3, v3), (b4, o4, v4), (b5, o5, v5), (b6, o6, v6), (b7, o7, v7), (b8, o8, v8), (b9, o9, v9), (b10, o10, v10), (b11, o11, v11), (b12, o12, v12)] B a len cap w0 w) : w.cell? ⟨b0, o0, none⟩ = some v0 ∧ w.frozen? ⟨b0, o0, none⟩ = false ∧ w.cell? ⟨b1, o1, none⟩ = some v1 ∧ w.frozen? ⟨b1, o1, none⟩ = false ∧ w.cell? ⟨b2, o2, none⟩ = some v2 ∧ w.frozen? ⟨b2, o2, none⟩ = false ∧ w.cell? ⟨b3, o3, none⟩ = some v3 ∧ w.frozen? ⟨b3, o3, none⟩ = false ∧ w.cell? ⟨b4, o4, none⟩ = some v4 ∧ w.frozen? ⟨b4, o4, none⟩ = false ∧ w.cell? ⟨b5, o5, none⟩ = some v5 ∧ w.frozen? ⟨b5, o5, none⟩ = false ∧ w.cell? ⟨b6, o6, none⟩ = some v6 ∧ w.frozen? ⟨b6, o6, none⟩ = false ∧ w.cell? ⟨b7, o7, none⟩ = some v7 ∧ w.frozen? ⟨b7, o7, none⟩ = false ∧ w.cell? ⟨b8, o8, none⟩ = some v8 ∧ w.frozen? ⟨b8, o8, none⟩ = false ∧ w.cell? ⟨b9, o9, none⟩ = some v9 ∧ w.frozen? ⟨b9, o9, none⟩ = false ∧ w.cell? ⟨b10, o10, none⟩ = some v10 ∧ w.frozen? ⟨b10, o10, none⟩ = false ∧ w.cell? ⟨b11, o11, none⟩ = some v11 ∧ w.frozen? ⟨b11, o11, none⟩ = false ∧ w.cell? ⟨b12, o12, none⟩ = some v12 ∧ w.frozen? ⟨b12, o12, none⟩ = false := ⟨(h.at b0 o0 v0 (by simp)).1, (h.at b0 o0 v0 (by simp)).2, (h.at b1 o1 v1 (by simp)).1, (h.at b1 o1 v1 (by simp)).2, (h.at b2 o2 v2 (by simp)).1, (h.at b2 o2 v2 (by simp)).2, (h.at b3 o3 v3 (by simp)).1, (h.at b3 o3 v3 (by simp)).2, (h.at b4 o4 v4 (by simp)).1, (h.at b4 o4 v4 (by simp)).2, (h.at b5 o5 v5 (by simp)).1, (h.at b5 o5 v5 (by simp)).2, (h.at b6 o6 v6 (by simp)).1, (h.at b6 o6 v6 (by simp)).2, (h.at b7 o7 v7 (by simp)).1, (h.at b7 o7 v7 (by simp)).2, (h.at b8 o8 v8 (by simp)).1, (h.at b8 o8 v8 (by simp)).2, (h.at b9 o9 v9 (by simp)).1, (h.at b9 o9 v9 (by simp)).2, (h.at b10 o10 v10 (by simp)).1, (h.at b10 o10 v10 (by simp)).2, (h.at b11 o11 v11 (by simp)).1, (h.at b11 o11 v11 (by simp)).2, (h.at b12 o12 v12 (by simp)).1, (h.at b12 o12 v12 (by simp)).2⟩
theorem St.s14 {b0 o0 b1 o1 b2 o2 b3 o3 b4 o4 b5 o5 b6 o6 b7 o7 b8 o8 b9 o9 b10 o10 b11 o11 b12 o12 b13 o13 : Nat} {v0 v1 v2 v3 v4 v5 v6 v7 v8 v9 v10 v11 v12 v13 : Value} {B : Nat} {a : Option Addr} {len cap : Nat} {w0 w : World} (h : St [(b0, o0, v0), (b1, o1, v1), (b2, o2, v2), (b3, o3, v3), (b4, o4, v4), (b5, o5, v5), (b6, o6, v6), (b7, o7, v7), (b8, o8, v8), (b9, o9, v9), (b10, o10, v10), (b11, o11, v11), (b12, o12, v12), (b13, o13, v13)] B a len cap w0 w) : w.cell? ⟨b0, o0, none⟩ = some v0 ∧ w.frozen? ⟨b0, o0, none⟩ = false ∧ w.cell? ⟨b1, o1, none⟩ = some v1 ∧ w.frozen? ⟨b1, o1, none⟩ = false ∧ w.cell? ⟨b2, o2, none⟩ = some v2 ∧ w.frozen? ⟨b2, o2, none⟩ = false ∧ w.cell? ⟨b3, o3, none⟩ = some v3 ∧ w.frozen? ⟨b3, o3, none⟩ = false ∧ w.cell? ⟨b4, o4, none⟩ = some v4 ∧ w.frozen? ⟨b4, o4, none⟩ = false ∧ w.cell? ⟨b5, o5, none⟩ = some v5 ∧ w.frozen? ⟨b5, o5, none⟩ = false ∧ w.cell? ⟨b6, o6, none⟩ = some v6 ∧ w.frozen? ⟨b6, o6, none⟩ = false ∧ w.cell? ⟨b7, o7, none⟩ = some v7 ∧ w.frozen? ⟨b7, o7, none⟩ = false ∧ w.cell? ⟨b8, o8, none⟩ = some v8 ∧ w.frozen? ⟨b8, o8, none⟩ = false ∧ w.cell? ⟨b9, o9, none⟩ = some v9 ∧ w.frozen? ⟨b9, o9, none⟩ = false ∧ w.cell? ⟨b10, o10, none⟩ = some v10 ∧ w.frozen? ⟨b10, o10, none⟩ = false ∧ w.cell? ⟨b11, o11, none⟩ = some v11 ∧ w.frozen? ⟨b11, o11, none⟩ = false ∧ w.cell? ⟨b12, o12, none⟩ = some v12 ∧ w.frozen? ⟨b12, o12, none⟩ = false ∧ w.cell? ⟨b13, o13, none⟩ = some v13 ∧ w.frozen? ⟨b13, o13, none⟩ = false := ⟨(h.at b0 o0 v0 (by simp)).1, (h.at b0 o0 v0 (by simp)).2, (h.at b1 o1 v1 (by simp)).1, (h.at b1 o1 v1 (by simp)).2, (h.at b2 o2 v2 (by simp)).1, (h.at b2 o2 v2 (by simp)).2, (h.at b3 o3 v3 (by simp)).1, (h.at b3 o3 v3 (by simp)).2, (h.at b4 o4 v4 (by simp)).1, (h.at b4 o4 v4 (by simp)).2, (h.at b5 o5 v5 (by simp)).1, (h.at b5 o5 v5 (by simp)).2, (h.at b6 o6 v6 (by simp)).1, (h.at b6 o6 v6 (by simp)).2, (h.at b7 o7 v7 (by simp)).1, (h.at b7 o7 v7 (by simp)).2, (h.at b8 o8 v8 (by simp)).1, (h.at b8 o8 v8 (by simp)).2, (h.at b9 o9 v9 (by simp)).1, (h.at b9 o9 v9 (by simp)).2, (h.at b10 o10 v10 (by simp)).1, (h.at b10 o10 v10 (by simp)).2, (h.at b11 o11 v11 (by simp)).1, (h.at b11 o11 v11 (by simp)).2, (h.at b12 o12 v12 (by simp)).1, (h.at b12 o12 v12 (by simp)).2, (h.at b13 o13 v13 (by simp)).1, (h.at b13 o13 v13 (by simp)).2⟩
end Go.Proofs.YtdaihpkjnigjgaaDoor
namespace Go.Proofs.YtdaihpkjnigjgaaDoor
open Go.RowKit
set_option maxHeartbeats 4000000
set_option linter.unusedVariables false
set_option linter.unusedSimpArgs false
theorem Src.kept3O {w w' : World} {B N : Nat} {a : Option Addr} {len cap : Nat} {row : Option Nat} (h : Src w B a len cap) (hab : 0 < len → ∀ x, a = some x → x.block < N) (hBN : B < N) (hg : w.grownBy w' row) (hr : ∀ k, row = some k → N ≤ k) : Src w' B a len cap := by
  have hlt := h.lt
  obtain ⟨⟨p, s, h1, h2, h3, hb⟩, hc⟩ := h
  refine ⟨⟨p, s, h1, h2, h3, by rw [← hb]; exact hg.block B hlt (fun e => by have := hr B e.symm; omega)⟩, hc.1, fun k hk => ?_⟩
  obtain ⟨b, off, x, rfl, hne, hx, x0, x1⟩ := hc.2 k hk
  exact ⟨b, off, x, rfl, hne, hg.cell hx (fun e => by have := hr b e.symm; have := hab (by omega) ⟨b, off, none⟩ rfl; simp at this; omega), x0, x1⟩
/-- a world that grew beside a block of the call's own -/
theorem St.ownO {l : List (Nat × Nat × Value)} {B : Nat} {a : Option Addr} {len cap : Nat} {w0 W W1 : World} {row : Option Nat} (h : St l B a len cap w0 W) (hg : W.grownBy W1 row) (hr : ∀ k, row = some k → w0.heap.size ≤ k ∧ ∀ x ∈ l, x.1 ≠ k) : St l B a len cap w0 W1 := by
  have hB := h.lt
  refine ⟨fun x hx => ?_, h.2.1, h.src.kept3O (N := w0.heap.size) h.2.1.low hB hg (fun k e => (hr k e).1), ⟨hg.os.trans h.grown.os, hg.tape.trans h.grown.tape, hg.output.trans h.grown.output, Nat.le_trans h.grown.size hg.size, fun i hi hne => (hg.block i (Nat.lt_of_lt_of_le hi h.grown.size) (fun e => by have := (hr i e.symm).1; omega)).trans (h.grown.block i hi hne)⟩⟩
  obtain ⟨h1, h2, h3, h4⟩ := h.1 x hx
  have hne : some x.1 ≠ row := fun e => (hr x.1 e.symm).2 x hx rfl
  exact ⟨h1, Nat.lt_of_lt_of_le h2 hg.size, hg.cell h3 (by simpa using hne), by rw [World.frozen?_of_block (w := W) (hg.block x.1 h2 (by simpa using hne))]; exact h4⟩
end Go.Proofs.YtdaihpkjnigjgaaDoor
namespace Go.Proofs.YtdaihpkjnigjgaaDoor
open Go.RowKit
set_option maxHeartbeats 4000000
set_option maxRecDepth 100000
set_option linter.unusedVariables false
set_option linter.unusedSimpArgs false
/-- what hands back a drawn traffic leaves -/
def DrawnTf (w : World) (B : Nat) (a : Option Addr) (len cap : Nat) (e : Ending) (w' : World) : Prop :=
  ∃ (Bt : Int) (v : Value) (l : List Int), e = .returned (.agg #[.int .i64 Bt, v]) ∧ InR Bt ∧ Own w' w.heap.size v l ∧ l.length ≤ 5 ∧ Src w' B a len cap ∧ w.grownBy w' (some B)
theorem st_res {w W : World} {B R : Nat} {a : Option Addr} {len cap : Nat} {u0 u1 : Value} (h : St [] B a len cap w W) (hR : w.heap.size ≤ R) : St [] B a len cap w ((W.setCell ⟨R, 0, none⟩ u0).setCell ⟨R, 1, none⟩ u1) :=
  (h.set R 0 u0 hR (fun x hx => by simp at hx)).set R 1 u1 hR (fun x hx => by simp at hx)
theorem own_litT (w : World) (base : Nat) (l : List Int) (h : base ≤ w.heap.size) (hl : l.length ≤ 1000) (hr : ∀ x ∈ l, InR x) : Sl (w.alloc (.cells (l.map (Value.int .i64)).toArray 2)) (some ⟨w.heap.size, 0, none⟩) l.length l := by
  obtain ⟨a, c, e, s, _⟩ := (own_lit w base l h hl hr).sl
  cases e; exact s
theorem madeT_own {w7 : World} {base g n : Nat} (hb : base ≤ g) (h : w7.ownsRow base 2 1 (.slice (some ⟨g, 0, none⟩) n n) n (madeCells (Value.int .i64 0).cells (n * 1)).toList) : Own w7 base (.slice (some ⟨g, 0, none⟩) n n) (List.replicate n 0) := by
  refine ⟨?_, fun x hx => by rw [List.eq_of_mem_replicate hx]; exact ⟨by omega, by omega⟩⟩
  have := toList_madeCells_one (.int .i64 0) n
  simpa [Value.cells, this] using h
set_option maxRecDepth 100000 in
theorem s_l10Draw (B : Nat) (a : Option Addr) (len cap : Nat) (w : World) (hs : Src w B a len cap) :
    Calls Tryd.prog 19 #[.pointer (some ⟨B, 0, none⟩)] w (DrawnTf w B a len cap) := by
  have HS := Lib.hid hs
  have hBlt := hs.lt
  clear hs
  go_enter Tryd.func19, Tryd.ntmps19
  go_wp2_with fail
  have T0 := Lib.hid ((St.begin HS.out).box2 (.int .i64 0) (.slice none 0 0) 26)
  refine (s_Next B a len cap 5 _ T0.out.src (by omega) (by omega)).mono ?_
  rintro e w1 ⟨x, rfl, x0, x1, x2, src, gr⟩
  have hx := x1 (by omega)
  have T1 := Lib.hid (T0.out.call src gr)
  clear gr src x1 x2 T0
  go_wp2_with fail
  have hz1 : w.heap.size + 1 ≤ w1.heap.size := (T1.out.szl w.heap.size 0 (.int .i64 0) (by simp)).2
  have OA : Hid (Own (w1.alloc (.cells #[] 2)) (w.heap.size + 1) (.slice (some ⟨w1.heap.size, 0, none⟩) 0 0) []) := Lib.hid (own_new w1 _ hz1)
  have TA := Lib.hid (T1.out.alloc (.cells #[] 2))
  refine (s_Next B a len cap (2 + x) _ TA.out.src (by omega) (by omega)).mono ?_
  rintro e w2 ⟨y, rfl, y0, y1, y2, src, gr⟩
  have hy := y1 (by omega)
  have T2 := Lib.hid (TA.out.call src gr)
  have O2 := Lib.hid (OA.out.kept gr (by intro k hk; cases hk; omega))
  clear gr src y1 y2 TA OA T1 hz1
  have key : ∀ z : Int, 0 ≤ z → z < 4 → True := fun _ _ _ => trivial
  go_wp2_with fail
  all_goals
    refine (s_Next B a len cap _ _ T2.out.src (by omega) (by omega)).mono ?_
    rintro e w3 ⟨z, rfl, z0, z1, z2, src, gr⟩
    have hz := z1 (by omega)
    have T3 := Lib.hid (T2.out.call src gr)
    have O3 := Lib.hid (O2.out.kept gr (by intro k hk; cases hk; omega))
    obtain ⟨zn, rfl⟩ := Int.eq_ofNat_of_zero_le z0
    have hzn : zn < 4 := by omega
    clear gr src z1 z2 T2 O2 hz z0
    go_wp2_with fail
    go_loopw [4, 5, 6] (fun v at' k' wr => ∃ (l : List Int) (p : Int) (k : Nat), k' = .int .i64 k ∧ at' = .int .i64 p ∧ 0 ≤ p ∧ p ≤ 7 + 3 * l.length ∧ l.length + k ≤ 4 ∧ 1 ≤ l.length + k ∧ Own wr (w.heap.size + 1) v l ∧ St [(w.heap.size, 0, .int .i64 0), (w.heap.size, 1, .slice none 0 0)] B a len cap w wr) (fun _ _ k' _ => (intOf k').toNat)
    case atStart => exact ⟨[], y, 1 + zn, by go_num, rfl, y0, by simp; omega, by simp; omega, by omega, O3.out, T3.out⟩
    case round =>
      clear O3 T3
      obtain ⟨l, p, k, rfl, rfl, p0, p1, hlen, hlen1, ho, ht⟩ := hrel
      have T4 := Lib.hid ht
      have O4 := Lib.hid ho
      have hz4 : w.heap.size + 1 ≤ wr.heap.size := (ht.szl w.heap.size 0 (.int .i64 0) (by simp)).2
      clear ho ht
      by_cases hk : 0 < k
      · go_wp2_with fail
        have hl3 := sl_new wr [0, 1, 1, 2] 2 (by simp) (by intro x hx; simp at hx; unfold InR; omega)
        refine (s_Pick B a len cap ⟨wr.heap.size, 0, none⟩ 4 4 _ _ (T4.out.src.alloc _) hl3 (by have := T4.out.src.lt; show wr.heap.size ≠ B; omega) (by omega)).mono ?_
        rintro e w5 ⟨ph, rfl, hph, src, gr⟩
        have hph2 : 0 ≤ ph ∧ ph ≤ 2 := by simp at hph; omega
        obtain ⟨hpa, hpb⟩ := hph2
        have T5 := Lib.hid ((T4.out.alloc _).call src gr)
        have O5 := Lib.hid ((O4.out.alloc _).kept gr (by intro k hk; cases hk; omega))
        have hz5 : w.heap.size + 1 ≤ w5.heap.size := (T5.out.szl w.heap.size 0 (.int .i64 0) (by simp)).2
        have m1 : 0 ≤ p % (2 + x) := Int.emod_nonneg _ (by omega)
        have m2 : p % (2 + x) < 2 + x := Int.emod_lt_of_pos _ (by omega)
        clear src gr hl3 hph T4 O4
        go_wp2_with (at_builtin; go_must (refine app1 rfl _ _ rfl (w.heap.size + 1) _ _ _ _ _ O5.out rfl rfl ⟨by omega, by omega⟩ (by omega) hz5 ?_; intro v' w6 ho hg; have O6 := Lib.hid ho; have T6 := Lib.hid (T5.out.ownO hg (fun k e => ⟨by have := (O5.out.lt k e).1; omega, fun x hx => by have := (O5.out.lt k e).1; simp at hx; rcases hx with rfl | rfl <;> (show w.heap.size ≠ k; omega)⟩)); clear ho hg))
        refine (s_Next B a len cap 3 _ T6.out.src (by omega) (by omega)).mono ?_
        rintro e w7 ⟨r, rfl, r0, r1, r2, src, gr⟩
        have hr := r1 (by omega)
        have T7 := Lib.hid (T6.out.call src gr)
        have O7 := Lib.hid (O6.out.kept gr (by intro k hk; cases hk; omega))
        have q1 : 0 ≤ ph.tdiv 2 ∧ ph.tdiv 2 ≤ 1 := by rw [Int.tdiv_eq_ediv_of_nonneg hpa]; omega
        have q2 : 0 ≤ r.tdiv 2 ∧ r.tdiv 2 ≤ 1 := by rw [Int.tdiv_eq_ediv_of_nonneg r0]; omega
        have q3 : 0 ≤ ph / 2 ∧ ph / 2 ≤ 1 := by omega
        have q4 : 0 ≤ r / 2 ∧ r / 2 ≤ 1 := by omega
        obtain ⟨q1a, q1b⟩ := q1; obtain ⟨q2a, q2b⟩ := q2; obtain ⟨q3a, q3b⟩ := q3; obtain ⟨q4a, q4b⟩ := q4
        clear src gr r1 r2 T5 O5 T6 O6
        go_wp2_with fail
        go_roundw
        case rel => exact ⟨l ++ [3 * (p % (2 + x)) + ph], _, k - 1, congrArg (Value.int .i64) (by omega), rfl, by omega, by simp; omega, by simp; omega, by simp; omega, O7.out, T7.out⟩
        case measure => simp [intOf]; omega
      · obtain rfl : k = 0 := by omega
        go_wp2_with fail
        refine (s_Next B a len cap 40 _ T4.out.src (by omega) (by omega)).mono ?_
        rintro e w5 ⟨c, rfl, c0, c1, c2, src, gr⟩
        have T5 := Lib.hid (T4.out.call src gr)
        have O5 := Lib.hid (O4.out.kept gr (by intro k hk; cases hk; omega))
        have hz5 : w.heap.size + 1 ≤ w5.heap.size := (T5.out.szl w.heap.size 0 (.int .i64 0) (by simp)).2
        clear gr src c1 c2 hk T4 O4
        obtain ⟨a2, cc, e2, _, _⟩ := O5.out.sl
        subst e2
        by_cases k0 : c = 0
        · subst k0
          go_wp2_with fail
          have hl3 := sl_new w5 [1, 8, 9] 2 (by simp) (by intro x hx; simp at hx; unfold InR; omega)
          refine (s_Pick B a len cap ⟨w5.heap.size, 0, none⟩ 3 3 _ _ (T5.out.src.alloc _) hl3 (by have := T5.out.src.lt; show w5.heap.size ≠ B; omega) (by omega)).mono ?_
          rintro e w6 ⟨u, rfl, hu, src, gr⟩
          have T6 := Lib.hid ((T5.out.alloc _).call src gr)
          have hu2 : 1 ≤ u ∧ u ≤ 9 := by simp at hu; omega
          obtain ⟨hua, hub⟩ := hu2
          have O6 := Lib.hid ((O5.out.alloc _).kept gr (by intro k hk; cases hk; omega))
          obtain ⟨d0, d1, d2, d3⟩ := St.s2 T6.out
          clear gr src hu hl3 T5 O5
          go_wp2_with fail
          exact bodyPost_ret (v := .agg #[.int .i64 u, .slice a2 l.length cc]) (by simp [results, Tryd.results19, go_sem, *]) rfl ⟨_, _, l, rfl, ⟨by omega, by omega⟩, tf_mono (own_res O6.out (by omega)) (by omega), by omega, (st_res T6.out.bare (Nat.le_refl _)).src, (st_res T6.out.bare (Nat.le_refl _)).grown⟩
        · have e0 : (c == 0) = false := by simpa using k0
          by_cases k1 : c = 1
          · subst k1
            go_wp2_with fail
            have hl3 := sl_new w5 [-1, 3 * (2 + x) - 1, 3 * (2 + x)] 2 (by simp) (by intro y hy; simp at hy; unfold InR; omega)
            refine (s_Pick B a len cap ⟨w5.heap.size, 0, none⟩ 3 3 _ _ (T5.out.src.alloc _) hl3 (by have := T5.out.src.lt; show w5.heap.size ≠ B; omega) (by omega)).mono ?_
            rintro e w6 ⟨u, rfl, hu, src, gr⟩
            have T6 := Lib.hid ((T5.out.alloc _).call src gr)
            have hu2 : -1 ≤ u ∧ u ≤ 100 := by simp at hu; omega
            obtain ⟨hua, hub⟩ := hu2
            have O6 := Lib.hid ((O5.out.alloc _).kept gr (by intro k hk; cases hk; omega))
            clear gr src hu hl3 T5 O5
            obtain ⟨g, cg, e2⟩ := own_some O6.out rfl (by omega)
            cases e2
            have hgb := (O6.out.lt g rfl).1
            obtain ⟨y1, y2⟩ := own_at O6.out rfl 0 (by omega)
            obtain ⟨o1, o2⟩ := own_put O6.out rfl 0 u ⟨by omega, by omega⟩
            have T8 := Lib.hid (T6.out.ownO o2 (fun k e => ⟨by cases e; omega, fun x hx => by cases e; simp at hx; rcases hx with rfl | rfl <;> (show w.heap.size ≠ g; omega)⟩))
            have O8 : Hid (Own (w6.setCell ⟨g, 0, none⟩ (.int .i64 u)) (w.heap.size + 1) (.slice (some ⟨g, 0, none⟩) l.length cc) (l.set 0 u)) := Lib.hid o1
            obtain ⟨d0, d1, d2, d3⟩ := St.s2 T6.out
            have hne1 : ¬ g = w.heap.size := by omega
            have hne2 : ¬ w.heap.size = g := by omega
            have hl0 : (0 : Int) < (l.length : Int) := by omega
            clear o1 o2 T6 O6
            go_wp2_with fail
            exact bodyPost_ret (v := .agg #[.int .i64 (2 + x), .slice (some ⟨g, 0, none⟩) l.length cc]) (by simp [results, Tryd.results19, go_sem, *]) rfl ⟨_, _, (l.set 0 u), rfl, ⟨by omega, by omega⟩, tf_mono (own_res O8.out (by omega)) (by omega), by simp; omega, (st_res T8.out.bare (Nat.le_refl _)).src, (st_res T8.out.bare (Nat.le_refl _)).grown⟩
          · have e1 : (c == 1) = false := by simpa using k1
            by_cases k2 : c = 2
            · subst k2
              go_wp2_with fail
              refine (s_Next B a len cap 2 _ T5.out.src (by omega) (by omega)).mono ?_
              rintro e w6 ⟨y', rfl, y0', y1', y2', src, gr⟩
              have T6 := Lib.hid (T5.out.call src gr)
              have hy' := y1' (by omega)
              have hz6 : w.heap.size + 1 ≤ w6.heap.size := (T6.out.szl w.heap.size 0 (.int .i64 0) (by simp)).2
              clear gr src y1' y2' T5 O5
              obtain ⟨m, rfl⟩ := Int.eq_ofNat_of_zero_le y0'
              obtain ⟨i0, hi, hz0, hz1, hz2⟩ := info_parts info_i64
              have HI := Lib.hid hi; clear hi
              have HZ0 := Lib.hid hz0; clear hz0
              have HZ1 := Lib.hid hz1; clear hz1
              have HZ2 := Lib.hid hz2; clear hz2
              go_wp2_with (refine wpList_make_full _ rfl _ _ _ rfl (w.heap.size + 1) 2 i0 (.int .i64 0) 1 Tryd.underlying24 HI.out HZ0.out HZ1.out _ _ _ _ (4 + m) rfl rfl (by omega) (by omega) (by rw [HZ2.out]; omega) (by unfold maxLen; omega) hz6 ?_; intro w7 hown hgrow; have O7 := Lib.hid (madeT_own hz6 hown); have T7 := Lib.hid (T6.out.ownO hgrow (fun k e => by cases e)); clear hown hgrow; obtain ⟨d0, d1, d2, d3⟩ := St.s2 T7.out)
              exact bodyPost_ret (v := .agg #[.int .i64 (2 + x), .slice (some ⟨w6.heap.size, 0, none⟩) (4 + m) (4 + m)]) (by simp [results, Tryd.results19, go_sem, *]) rfl ⟨_, _, (List.replicate (4 + m) 0), rfl, ⟨by omega, by omega⟩, tf_mono (own_res O7.out (by omega)) (by omega), by simp; omega, (st_res T7.out.bare (Nat.le_refl _)).src, (st_res T7.out.bare (Nat.le_refl _)).grown⟩
            · have e2 : (c == 2) = false := by simpa using k2
              obtain ⟨d0, d1, d2, d3⟩ := St.s2 T5.out
              by_cases k3 : c = 3
              · subst k3
                go_wp2_with fail
                exact bodyPost_ret (v := .agg #[.int .i64 (2 + x), .slice none 0 0]) (by simp [results, Tryd.results19, go_sem, *]) rfl ⟨_, _, [], rfl, ⟨by omega, by omega⟩, tf_mono (own_res (tf_none _ (w.heap.size + 1)) (by omega)) (by omega), by simp, (st_res T5.out.bare (Nat.le_refl _)).src, (st_res T5.out.bare (Nat.le_refl _)).grown⟩
              · have e3 : (c == 3) = false := by simpa using k3
                go_wp2_with fail
                exact bodyPost_ret (v := .agg #[.int .i64 (2 + x), .slice a2 l.length cc]) (by simp [results, Tryd.results19, go_sem, *]) rfl ⟨_, _, l, rfl, ⟨by omega, by omega⟩, tf_mono (own_res O5.out (by omega)) (by omega), by omega, (st_res T5.out.bare (Nat.le_refl _)).src, (st_res T5.out.bare (Nat.le_refl _)).grown⟩
end Go.Proofs.YtdaihpkjnigjgaaDoor
namespace Go.Proofs.YtdaihpkjnigjgaaDoor
open Go.RowKit Go.Shelf
set_option maxHeartbeats 40000000
set_option linter.unusedVariables false
set_option linter.unusedSimpArgs false
theorem cl_newB (w : World) (cs : Array Value) (T : TypeId) (j : Nat) (v : Value) (h : cs[j]? = some v) : (w.alloc (.cells cs T)).cell? ⟨w.heap.size, j, none⟩ = some v := by
  simp only [World.cell?, heap_alloc_new]; simp [h]
set_option maxRecDepth 100000 in
theorem s_TrafficText (B : Int) (a : Option Addr) (n cap : Nat) (l : List Int) (w : World) (hs : Sl w a n l) :
    Calls Tryd.prog 12 #[.agg #[.int .i64 B, .slice a n cap]] w (Texts w (tfTx B l)) := by
  have HS := Lib.hid hs
  have HL := Lib.hid hs.1
  clear hs
  cases hv : tfB B l
  · have HX : Hid (tfTx B l = []) := Lib.hid (by unfold tfTx; rw [hv]; rfl)
    go_enter Tryd.func12, Tryd.ntmps12
    go_wp2_with (go_at_call 33; refine (s_IsTraffic _ _ _ _ _ _ (sl_later HS.out (show Later w _ from (by repeat (first | (with_reducible exact Later.refl _) | (with_reducible exact Hid.out (by assumption)) | (with_reducible refine Later.alloc ?_ _) | (with_reducible refine Later.setCell ?_ (by simp; omega) _) | (with_reducible refine Later.setCell ?_ (by simp) _) | (with_reducible refine Later.drewN ?_ _) | (with_reducible refine Later.drew ?_) | (with_reducible refine Later.trans ?_ (Hid.out (by assumption)))))))).mono ?_; rintro e w1 ⟨rfl, hb⟩; rw [hv]; have H1 := Lib.hid hb; clear hb)
    go_ret
    exact ⟨by rw [HX.out]; rfl, (show Later w _ from (by repeat (first | (with_reducible exact Later.refl _) | (with_reducible exact Hid.out (by assumption)) | (with_reducible refine Later.alloc ?_ _) | (with_reducible refine Later.setCell ?_ (by simp; omega) _) | (with_reducible refine Later.setCell ?_ (by simp) _) | (with_reducible refine Later.drewN ?_ _) | (with_reducible refine Later.drew ?_) | (with_reducible refine Later.trans ?_ (Hid.out (by assumption))))))⟩
  · obtain ⟨b1, b2, n1, n2, hp⟩ := (tfB_iff B l).1 hv
    rw [HL.out] at n1 n2
    have HP := Lib.hid hp
    have HX : Hid (tfTx B l = txK B l l.length) := Lib.hid (by unfold tfTx; rw [hv]; rfl)
    clear hp
    go_enter Tryd.func12, Tryd.ntmps12
    go_wp2_with fail
    refine (s_IsTraffic _ _ _ _ _ _ (sl_later HS.out (show Later w _ from (by repeat (first | (with_reducible exact Later.refl _) | (with_reducible exact Hid.out (by assumption)) | (with_reducible refine Later.alloc ?_ _) | (with_reducible refine Later.setCell ?_ (by simp; omega) _) | (with_reducible refine Later.setCell ?_ (by simp) _) | (with_reducible refine Later.drewN ?_ _) | (with_reducible refine Later.drew ?_) | (with_reducible refine Later.trans ?_ (Hid.out (by assumption)))))))).mono ?_
    rintro e w1 ⟨rfl, hl⟩
    rw [hv]
    obtain ⟨H1, hcc, hff, hzz⟩ := later_facts hl; clear hl
    simp only [World.size_alloc] at hzz hcc hff
    have q0 : w1.cell? ⟨w.heap.size, 0, none⟩ = some (.int .i64 B) := by rw [hcc _ _ (by omega)]; simp
    have q1 : w1.cell? ⟨w.heap.size, 1, none⟩ = some (.slice a n cap) := by rw [hcc _ _ (by omega)]; simp
    have HG1 : Hid (Later w w1) := Lib.hid (by repeat (first | (with_reducible exact Later.refl _) | (with_reducible exact Hid.out (by assumption)) | (with_reducible refine Later.alloc ?_ _) | (with_reducible refine Later.setCell ?_ (by simp; omega) _) | (with_reducible refine Later.setCell ?_ (by simp) _) | (with_reducible refine Later.drewN ?_ _) | (with_reducible refine Later.drew ?_) | (with_reducible refine Later.trans ?_ (Hid.out (by assumption)))))
    clear hcc hff H1
    go_wp2_with fail
    refine (s_Dec 100 B _ (by omega) (by omega) (by omega)).mono ?_
    rintro e w2 ⟨rfl, hl⟩
    obtain ⟨H2, hcc, hff, hzz2⟩ := later_facts (show Later w1 w2 from hl); clear hl
    have c0 : w2.cell? ⟨w.heap.size, 0, none⟩ = some (.int .i64 B) := by rw [hcc _ _ (by omega)]; exact q0
    have c1 : w2.cell? ⟨w.heap.size, 1, none⟩ = some (.slice a n cap) := by rw [hcc _ _ (by omega)]; exact q1
    have HG2 : Hid (Later w w2) := Lib.hid (HG1.out.trans H2.out)
    have hT0 : tx (Lib.decDigits B.toNat) = tx (txK B l 0) := by rw [txK_0, itoa_nn B (by omega)]
    clear hcc hff q0 q1 H2 HG1
    go_wp2_with fail
    go_loopw [3, 4] (fun v i wr => ∃ k : Nat, k ≤ n ∧ i = .int .i64 k ∧ v = .string (tx (txK B l k)) ∧ wr.cell? ⟨w.heap.size, 0, none⟩ = some (.int .i64 B) ∧ wr.cell? ⟨w.heap.size, 1, none⟩ = some (.slice a n cap) ∧ Later w wr) (fun _ i _ => n - (intOf i).toNat)
    case atStart => exact ⟨0, by omega, rfl, rfl, c0, c1, HG2.out⟩
    case round =>
      clear HG2 hT0 c0 c1
      obtain ⟨k, hk, rfl, rfl, q0, q1, hg⟩ := hrel
      have HG := Lib.hid hg
      clear hg
      by_cases hlt : k < n
      · obtain ⟨b, off, rfl, hc⟩ := (sl_later HS.out HG.out).at k hlt
        obtain ⟨p1, p2⟩ := plB_at HP.out k (by rw [HL.out]; exact hlt)
        have HN := Lib.hid (txK_succ B l k (by rw [HL.out]; exact hlt))
        have hlen := txK_len b1 b2 HP.out k (by rw [HL.out]; exact hk)
        obtain ⟨p, hpe⟩ : ∃ p, p = gx l k := ⟨_, rfl⟩
        rw [← hpe] at hc p1 p2 HN
        have m0 : 0 ≤ p / 3 := by omega
        have hm : p % 3 = 0 ∨ p % 3 = 1 ∨ p % 3 = 2 := by omega
        obtain ⟨T, hT⟩ : ∃ T, T = txK B l k := ⟨_, rfl⟩
        rw [← hT] at HN hlen ⊢
        have e1 : IntKind.i64.wrap (p.tdiv 3) = p / 3 := by rw [Int.tdiv_eq_ediv_of_nonneg p1, IntWalk.i64_in _ (by omega)]
        have e2 : p.tmod 3 = p % 3 := Int.tmod_eq_emod_of_nonneg p1
        obtain ⟨tb, htb⟩ : ∃ tb, tb = tx T := ⟨_, rfl⟩
        obtain ⟨db, hdb⟩ : ∃ db, db = tx (Lib.itoa (p / 3)) := ⟨_, rfl⟩
        have hdl : db.size ≤ 22 := by rw [hdb, tx_size]; exact itoa_len _ (by omega) (by omega)
        have hTl : tb.size ≤ 1000 := by rw [htb, tx_size]; omega
        have hz1 : ¬ 9223372036854775807 < tb.size + 1 := by omega
        have hz2 : ¬ 9223372036854775807 < tb.size + 1 + db.size := by omega
        have hz3 : ¬ 9223372036854775807 < tb.size + 1 + db.size + 1 := by omega
        have DEC : Hid (∀ W, Calls Tryd.prog 34 #[.int .i64 (p / 3)] W (fun e w' => e = .returned (.string db) ∧ Later W w')) := Lib.hid (fun W => (s_Dec 100 (p / 3) W (by omega) (by omega) (by omega)).mono (fun e w' h => ⟨by rw [h.1, hdb, itoa_nn _ m0], h.2⟩))
        have HTB := Lib.hid htb; have HDB := Lib.hid hdb
        rw [← htb]
        clear htb hdb
        have hcb := cell_lt hc
        have hw0 := cell_lt q0
        clear hpe hT
        have KS : Hid (∀ W', Later wr W' → W'.cell? ⟨w.heap.size, 0, none⟩ = some (.int .i64 B) ∧ W'.cell? ⟨w.heap.size, 1, none⟩ = some (.slice (some ⟨b, off, none⟩) n cap) ∧ W'.cell? ⟨b, off + k, none⟩ = some (.int .i64 p)) := Lib.hid (fun W' h => ⟨by rw [h.cell (p := ⟨w.heap.size, 0, none⟩) (cell_lt q0)]; exact q0, by rw [h.cell (p := ⟨w.heap.size, 1, none⟩) (cell_lt q1)]; exact q1, by rw [h.cell (p := ⟨b, off + k, none⟩) hcb]; exact hc⟩)
        obtain ⟨r, hr⟩ := Int.eq_ofNat_of_zero_le (show 0 ≤ p % 3 by omega)
        have hr3 : r < 3 := by omega
        have hr3i : (r : Int) < 3 := by omega
        obtain ⟨cb, hcb'⟩ : ∃ cb, cb = tx [chP (p % 3)] := ⟨_, rfl⟩
        have CL : ∀ W : World, (W.alloc (.cells #[.string ⟨#[114]⟩, .string ⟨#[104]⟩, .string ⟨#[99]⟩] 9)).cell? ⟨W.heap.size, r, none⟩ = some (.string cb) := fun W => by
          have h3 : r = 0 ∨ r = 1 ∨ r = 2 := by omega
          rcases h3 with rfl | rfl | rfl
          · rw [hcb', hr]; exact cl_newB _ _ _ _ _ rfl
          · rw [hcb', hr]; exact cl_newB _ _ _ _ _ rfl
          · rw [hcb', hr]; exact cl_newB _ _ _ _ _ rfl
        have hcs : cb.size = 1 := by rw [hcb']; rfl
        have hz4 : ¬ 9223372036854775807 < tb.size + 1 + db.size + cb.size := by omega
        have HW : Hid (wdP p = Lib.itoa (p / 3) ++ [chP (p % 3)]) := Lib.hid rfl
        have HV := Lib.hid (show tx (txK B l (k + 1)) = _ from by rw [HN.out, HW.out, ← List.append_assoc, ← tx_app, ← tx_app, ← tx_app, ← HTB.out, ← HDB.out, ← hcb'])
        rw [hr] at e2
        clear hm hcb' hr
        go_wp2_with fail
        go_region_law (first
          | (go_simp; go_at_call 34; refine (DEC.out _).mono ?_; rintro e w4 ⟨rfl, hb4⟩; obtain ⟨H4, hcc, hff, hzz⟩ := later_facts hb4; obtain ⟨r0, r1, r2⟩ := KS.out w4 (show Later wr w4 from (by repeat (first | (with_reducible exact Later.refl _) | (with_reducible exact Hid.out (by assumption)) | (with_reducible refine Later.alloc ?_ _) | (with_reducible refine Later.setCell ?_ (by simp; omega) _) | (with_reducible refine Later.setCell ?_ (by simp) _) | (with_reducible refine Later.drewN ?_ _) | (with_reducible refine Later.drew ?_) | (with_reducible refine Later.trans ?_ (Hid.out (by assumption)))))); have y0 := cell_lt r0; have y2 := cell_lt r2; clear hb4))
        all_goals
          go_wp2_with fail
          go_roundw
          case rel => exact ⟨k + 1, by omega, by go_num, by rw [HV.out]; rfl, (KS.out _ (show Later wr _ from (by repeat (first | (with_reducible exact Later.refl _) | (with_reducible exact Hid.out (by assumption)) | (with_reducible refine Later.alloc ?_ _) | (with_reducible refine Later.setCell ?_ (by simp; omega) _) | (with_reducible refine Later.setCell ?_ (by simp) _) | (with_reducible refine Later.drewN ?_ _) | (with_reducible refine Later.drew ?_) | (with_reducible refine Later.trans ?_ (Hid.out (by assumption))))))).1, (KS.out _ (show Later wr _ from (by repeat (first | (with_reducible exact Later.refl _) | (with_reducible exact Hid.out (by assumption)) | (with_reducible refine Later.alloc ?_ _) | (with_reducible refine Later.setCell ?_ (by simp; omega) _) | (with_reducible refine Later.setCell ?_ (by simp) _) | (with_reducible refine Later.drewN ?_ _) | (with_reducible refine Later.drew ?_) | (with_reducible refine Later.trans ?_ (Hid.out (by assumption))))))).2.1, HG.out.trans (show Later wr _ from (by repeat (first | (with_reducible exact Later.refl _) | (with_reducible exact Hid.out (by assumption)) | (with_reducible refine Later.alloc ?_ _) | (with_reducible refine Later.setCell ?_ (by simp; omega) _) | (with_reducible refine Later.setCell ?_ (by simp) _) | (with_reducible refine Later.drewN ?_ _) | (with_reducible refine Later.drew ?_) | (with_reducible refine Later.trans ?_ (Hid.out (by assumption))))))⟩
          case measure => simp [intOf]; omega
      · obtain rfl : k = n := by omega
        go_wp2_with fail
        go_ret
        exact ⟨by rw [HX.out, HL.out]; rfl, HG.out⟩
end Go.Proofs.YtdaihpkjnigjgaaDoor
namespace Go.Proofs.YtdaihpkjnigjgaaDoor
open Go.RowKit
set_option maxHeartbeats 4000000
set_option linter.unusedVariables false
set_option linter.unusedSimpArgs false
def pick8 (j : Nat) : ByteArray := tx [[48, 49, 32, 45, 46, 97, 10, 58].getD j 48]
theorem pick8_size (j : Nat) : (pick8 j).size = 1 := rfl
def eight : Array Value := #[.string ⟨#[48]⟩, .string ⟨#[49]⟩, .string ⟨#[32]⟩, .string ⟨#[45]⟩, .string ⟨#[46]⟩, .string ⟨#[97]⟩, .string ⟨#[10]⟩, .string ⟨#[58]⟩]
theorem eight_at (W : World) (j : Nat) (hj : j < 8) : (W.alloc (.cells #[.string ⟨#[48]⟩, .string ⟨#[49]⟩, .string ⟨#[32]⟩, .string ⟨#[45]⟩, .string ⟨#[46]⟩, .string ⟨#[97]⟩, .string ⟨#[10]⟩, .string ⟨#[58]⟩] 9)).cell? ⟨W.heap.size, j, none⟩ = some (.string (pick8 j)) := by
  rw [cell_of_row _ _ j _ 9 (0, 0) (heap_alloc_new W _)]
  rcases (show j = 0 ∨ j = 1 ∨ j = 2 ∨ j = 3 ∨ j = 4 ∨ j = 5 ∨ j = 6 ∨ j = 7 by omega) with rfl | rfl | rfl | rfl | rfl | rfl | rfl | rfl <;> rfl
/-- a text drawn: short, and nothing turned but the source -/
def DrawnT (w : World) (B : Nat) (a : Option Addr) (len cap : Nat) (most : Nat) (e : Ending) (w' : World) : Prop :=
  ∃ s : ByteArray, e = .returned (.string s) ∧ s.size ≤ most ∧ Src w' B a len cap ∧ w.grownBy w' (some B)
theorem below_grown {w w' : World} (h : Below w.heap.size w w') : w.grownBy w' none :=
  ⟨h.os, h.tape, h.output, h.size, fun k hk _ => h.block k hk⟩
theorem size_ext (t : ByteArray) (a b : Nat) : (t.extract a b).size = min b t.size - a := by simp
theorem s_DamageN (N B : Nat) (a : Option Addr) (len cap : Nat) (t : ByteArray) (w : World) (hs : Src w B a len cap) (ht : t.size ≤ N) (hN : N ≤ 1000000000) :
    Calls Tryd.prog 29 #[.pointer (some ⟨B, 0, none⟩), .string t] w (DrawnT w B a len cap (N + 1)) := by
  have HS := Lib.hid hs
  clear hs
  go_enter Tryd.func29, Tryd.ntmps29
  go_wp2_with fail
  refine (s_Next B a len cap _ w HS.out (by omega) (by omega)).mono ?_
  rintro e w1 ⟨r, rfl, r0, r1, r2, src, gr⟩
  obtain ⟨k, rfl⟩ := Int.eq_ofNat_of_zero_le r0
  have hk : k ≤ t.size := by
    by_cases h : (1 : Int) < (t.size : Int) + 1
    · have := r1 h; omega
    · have := r2 (by omega); omega
  have S1 := Lib.hid src; have G1 := Lib.hid gr
  clear src gr r1 r2
  go_wp2_with fail
  refine (s_Next B a len cap 8 _ S1.out (by omega) (by omega)).mono ?_
  rintro e w2 ⟨r, rfl, q0, q1, q2, src, gr⟩
  have hr := q1 (by omega)
  have S2 := Lib.hid src; have G2 := Lib.hid (grown_trans G1.out gr)
  have hB := src.lt
  clear src gr q1 q2
  have w4 : (0 : Int) ≤ (k : Int) := by omega
  have w5 : (k : Int) ≤ (t.size : Int) := by omega
  rcases (show r = 0 ∨ r = 1 ∨ r = 2 ∨ 2 < r by omega) with rfl | rfl | rfl | hr2
  · go_wp2_with fail
    go_ret
    exact ⟨_, rfl, by rw [size_ext]; omega, S2.out, G2.out⟩
  · have PC := eight_at
    go_wp2_with fail
    go_region_with (go_at_call 28; refine (s_Next B a len cap 8 _ (by first | exact S2.out | exact S2.out.alloc _) (by omega) (by omega)).mono ?_; rintro e w3 ⟨q, rfl, z0, z1, z2, src, gr⟩; obtain ⟨j, rfl⟩ := Int.eq_ofNat_of_zero_le z0; have hj : j < 8 := (by have := z1 (by omega); omega); have hp := pick8_size j; (first | (have hc1 : w3.cell? ⟨w2.heap.size, j, none⟩ = some (.string (pick8 j)) := gr.cell (eight_at w2.drew j hj) (by simp; omega)) | skip); have S3 := Lib.hid src; have G3 := Lib.hid gr; clear src gr z1 z2)
    all_goals
      go_wp2
      go_ret
      refine ⟨_, rfl, by rw [ByteArray.size_append, ByteArray.size_append, size_ext, size_ext, hp]; omega, ?_, ?_⟩
      · first
          | exact S3.out
          | exact S3.out.alloc _
      · first
          | exact grown_trans G2.out (grown_trans (grown_trans (grown_drewN w2 1 _) (World.grownBy_alloc _ _ _)) G3.out)
          | exact grown_trans G2.out (grown_trans (grown_trans (grown_drewN w2 1 _) G3.out) (World.grownBy_alloc _ _ _))
  · by_cases hkt : k < t.size
    · have w6 : (0 : Int) ≤ (k : Int) + 1 := by omega
      have w7 : (k : Int) + 1 ≤ (t.size : Int) := by omega
      have w8 : IntKind.i64.wrap ((k : Int) + 1) = (k : Int) + 1 := IntWalk.i64_in _ (by omega)
      have w9 : ((k : Int) + 1).toNat = k + 1 := by omega
      go_wp2_with fail
      go_quiet (fail)
      go_wp2
      go_ret
      exact ⟨_, rfl, by rw [ByteArray.size_append, size_ext, size_ext]; omega, S2.out, grown_trans G2.out (grown_drewN _ _ _)⟩
    · go_wp2_with fail
      go_ret
      exact ⟨_, rfl, by omega, S2.out, G2.out⟩
  · have e0 : (r == 0) = false := by simp; omega
    have e1 : (r == 1) = false := by simp; omega
    have e2 : (r == 2) = false := by simp; omega
    clear hr2
    go_wp2_with fail
    go_ret
    exact ⟨_, rfl, by omega, S2.out, G2.out⟩
end Go.Proofs.YtdaihpkjnigjgaaDoor
namespace Go.Proofs.YtdaihpkjnigjgaaDoor
open Go.RowKit Go.Shelf
set_option maxHeartbeats 4000000
set_option maxRecDepth 100000
set_option linter.unusedVariables false
set_option linter.unusedSimpArgs false
theorem tfTx_len (B : Int) (l : List Int) : (tfTx B l).length ≤ 6000 := by
  unfold tfTx
  cases h : tfB B l
  · simp
  · obtain ⟨b1, b2, _, b4, hp⟩ := (tfB_iff B l).1 h
    have := txK_len b1 b2 hp l.length (Nat.le_refl _)
    simp; omega
def DrawnTxq (w : World) (e : Ending) (w' : World) : Prop := ∃ s : ByteArray, e = .returned (.string s) ∧ s.size ≤ 6001 ∧ Below w.heap.size w w'
def DrawnTq (w : World) (e : Ending) (w' : World) : Prop :=
  ∃ (Bt : Int) (v : Value) (l : List Int), e = .returned (.agg #[.int .i64 Bt, v]) ∧ InR Bt ∧ Own w' w.heap.size v l ∧ l.length ≤ 5 ∧ Later w w'
set_option maxRecDepth 100000 in
theorem s_DrawTrafficText (a : Option Addr) (len cap : Nat) (w : World) (hs : Bytes w a len) :
    Calls Tryd.prog 7 #[.slice a len cap] w (DrawnTq w) := by
  have HS := Lib.hid hs
  clear hs
  go_enter Tryd.func7, Tryd.ntmps7
  go_wp2_with fail
  refine (s_From a len cap _ (HS.out.later ((Below.refl _ _).alloc (Nat.le_refl _) _))).mono ?_
  rintro e w1 ⟨rfl, src, lt, bel⟩
  rw [World.size_alloc] at src lt bel ⊢
  have S1 := Lib.hid src
  have d0 : w1.cell? ⟨w.heap.size, 0, none⟩ = some (.int .i64 0) := by rw [bel.cell (p := ⟨w.heap.size, 0, none⟩) (Nat.lt_succ_self _)]; simp
  have d1 : w1.cell? ⟨w.heap.size, 1, none⟩ = some (.slice none 0 0) := by rw [bel.cell (p := ⟨w.heap.size, 1, none⟩) (Nat.lt_succ_self _)]; simp
  have d2 : w1.frozen? ⟨w.heap.size, 0, none⟩ = false := by rw [Below.frozen (p := ⟨w.heap.size, 0, none⟩) bel (Nat.lt_succ_self _)]; simp
  have d3 : w1.frozen? ⟨w.heap.size, 1, none⟩ = false := by rw [Below.frozen (p := ⟨w.heap.size, 1, none⟩) bel (Nat.lt_succ_self _)]; simp
  have B1 : Hid (Later w w1) := Lib.hid (((Later.refl w).alloc _).trans (show Later _ w1 from by rw [Later, World.size_alloc]; exact bel))
  clear src bel
  go_wp2_with fail
  refine (s_l10Draw (w.heap.size + 1) a len cap _ S1.out).mono ?_
  rintro e w2 ⟨Bt, v, l, rfl, hb, ho, h5, src, gr⟩
  obtain ⟨a2, c2, rfl, _, _⟩ := ho.sl
  have c0 := gr.cell d0 (by simp)
  have c1 := gr.cell d1 (by simp)
  have c2' : w2.frozen? ⟨w.heap.size, 0, none⟩ = false := by rw [World.frozen?_of_block (w := w1) (gr.block w.heap.size (by omega) (by simp))]; exact d2
  have c3 : w2.frozen? ⟨w.heap.size, 1, none⟩ = false := by rw [World.frozen?_of_block (w := w1) (gr.block w.heap.size (by omega) (by simp))]; exact d3
  have B2 : Hid (Later w w2) := Lib.hid (Below.grown B1.out gr B1.out.size (fun k e => by cases e; omega))
  have HO := Lib.hid ho
  have HB := Lib.hid hb
  clear ho gr src d0 d1 d2 d3 S1 hb
  go_wp2_with fail
  exact bodyPost_ret (v := .agg #[.int .i64 Bt, .slice a2 l.length c2]) (by simp [results, Tryd.results7, go_sem, *]) rfl ⟨Bt, _, l, rfl, HB.out, tf_mono (own_res HO.out (by omega)) (by omega), h5, put_res (Nat.le_refl _) B2.out⟩
theorem s_DrawReadTraffic (a : Option Addr) (len cap : Nat) (w : World) (hs : Bytes w a len) :
    Calls Tryd.prog 10 #[.slice a len cap] w (DrawnTxq w) := by
  have HS := Lib.hid hs
  have HAB := Lib.hid hs.low
  clear hs
  go_enter Tryd.func10, Tryd.ntmps10
  go_wp2_with fail
  refine (s_From a len cap w HS.out).mono ?_
  rintro e w1 ⟨rfl, src, lt, bel⟩
  have S1 := Lib.hid src; have B1 := Lib.hid bel
  clear src bel
  go_wp2_with fail
  refine (s_l10Draw w.heap.size a len cap _ S1.out).mono ?_
  rintro e w2 ⟨Bt, v, l, rfl, hbt, ho, h5, src, gr⟩
  obtain ⟨a2, c2, rfl, hl, _⟩ := ho.sl
  have S2 := Lib.hid src; have B2 := Lib.hid (B1.out.trans (grown_below gr (Nat.le_refl _) (Nat.le_of_lt lt)))
  have L2 := Lib.hid hl
  have lt2 := src.lt
  clear src gr hl ho hbt
  go_wp2_with fail
  refine (s_TrafficText Bt a2 l.length c2 l _ L2.out).mono ?_
  rintro e w3 ⟨rfl, hb⟩
  have S3 := Lib.hid (S2.out.kept2 HAB.out ⟨hb.os, hb.tape, hb.output, hb.size, fun k hk (_ : some k ≠ none) => hb.block k hk⟩ (fun k hk => by cases hk))
  have B3 := Lib.hid (B2.out.trans (hb.mono (Nat.le_of_lt lt2)))
  have hl := tfTx_len Bt l
  rw [← tx_size] at hl
  obtain ⟨t, htt⟩ : ∃ t, t = tx (tfTx Bt l) := ⟨_, rfl⟩
  rw [← htt] at hl ⊢
  clear hb htt
  go_wp2_with fail
  refine (s_Next w.heap.size a len cap 3 _ S3.out (by omega) (by omega)).mono ?_
  rintro e w4 ⟨r, rfl, r0, r1, r2, src, gr⟩
  have S4 := Lib.hid src; have B4 := Lib.hid (B3.out.trans (grown_below gr (Nat.le_refl _) B3.out.size))
  clear src gr r1 r2
  by_cases c0 : r = 0
  · subst c0
    go_wp2_with fail
    refine (s_DamageN 6000 w.heap.size a len cap t _ S4.out hl (by omega)).mono ?_
    rintro e w5 ⟨s, rfl, hs, src, gr⟩
    have B5 := Lib.hid (B4.out.trans (grown_below gr (Nat.le_refl _) B4.out.size))
    clear src gr
    go_wp2_with fail
    go_ret
    exact ⟨_, rfl, hs, B5.out⟩
  · have e0 : (r == 0) = false := by simpa using c0
    clear c0
    go_wp2_with fail
    go_ret
    exact ⟨_, rfl, by omega, B4.out⟩
end Go.Proofs.YtdaihpkjnigjgaaDoor
namespace Go.Proofs.YtdaihpkjnigjgaaDoor
open Go.RowKit Go.Shelf
set_option maxHeartbeats 4000000
set_option maxRecDepth 100000
set_option linter.unusedVariables false
set_option linter.unusedSimpArgs false
theorem txK_ne (B : Int) (l : List Int) (k : Nat) (hB : 0 ≤ B) : txK B l k ≠ [] := by
  intro h
  have h1 : spl 32 (txK B l k) = wdsT B l k := spl_txK B l k
  rw [h] at h1
  unfold wdsT at h1
  have h2 : spl 32 ([] : List UInt8) = [[]] := rfl
  rw [h2] at h1
  simp at h1
  have := (dec_read (B.toNat + 1) B.toNat (by omega)).2.2
  rw [itoa_nn B hB] at h1
  exact this (by first | exact h1.1 | exact h1.1.symm)
theorem tfTx_yes {B : Int} {l : List Int} (h : tfB B l = true) : (tx (tfTx B l)).toList.isEmpty = false := by
  have := txK_ne B l l.length (by have := ((tfB_iff B l).1 h).1; omega)
  rw [Lib.toList_data]
  unfold tfTx
  rw [h]
  show (txK B l l.length).isEmpty = false
  simpa using this
theorem tfTx_no {B : Int} {l : List Int} (h : tfB B l = false) : (tx (tfTx B l)).toList.isEmpty = true := by
  rw [Lib.toList_data]
  unfold tfTx
  rw [h]; rfl
theorem isTx_nil (B : Int) (L : List Int) : ¬ IsTx [] B L := fun h => txK_ne B L L.length (by have := ((tfB_iff B L).1 h.1).1; omega) h.2.symm
theorem walk_FnTrafficText (a0 : Option Addr) (len0 cap0 : Nat) (z0 : List Int) (w : World) (w0 : IsRow .u8 w a0 len0 cap0 z0) (hx : Tab w ∧ MaxL w ∧ Errs w) :
    Calls Tryd.prog 3 #[.slice a0 len0 cap0] w fun e w' => e = .returned (.bool true) ∧ Below w.heap.size w w' := by
  have HS := Lib.hid (isRow_bytes w0)
  have HT := Lib.hid hx.1; have HM := Lib.hid hx.2.1; have HE := Lib.hid hx.2.2
  clear w0 hx
  by_cases hbig : 4096 < len0
  · go_enter Tryd.func3, Tryd.ntmps3
    go_wp2_with fail
    refine (l_big _ _ _ _).mono ?_
    rintro e w' ⟨rfl, rfl⟩
    go_wp2
    go_ret
    exact ⟨rfl, Below.refl _ _⟩
  have IR : Hid (∀ (s : ByteArray) (hs : s.size ≤ 1048576) (B2 : Int) (V : List Int) (ok : Bool), (∀ w e w', ReadsF w s.data.toList e w' → NewRF w B2 V ok e w') → ∀ W, Later w W → Calls Tryd.prog 9 #[.string s] W (NewRF W B2 V ok)) := Lib.hid (fun s hs B2 V ok hRF W h => (i_ReadTraffic s W hs (HT.out.later h) (HM.out.later h) (HE.out.lat h)).mono (fun e w' h => hRF _ _ _ h))
  go_enter Tryd.func3, Tryd.ntmps3
  go_wp2_with fail
  refine (l_big _ _ _ _).mono ?_
  rintro e w' ⟨rfl, rfl⟩
  have K0 : Hid (Held [] w w) := Lib.hid (held_none w)
  go_wp2_with fail
  clear hbig
  refine (s_DrawTrafficText _ _ _ _ HS.out).mono ?_
  rintro e w1 ⟨Bt, v, l, rfl, hbt, ho, h5, hb⟩
  obtain ⟨aX, cX, rfl, _, _⟩ := ho.sl
  have OX := Lib.hid ho
  clear ho hbt
  have K1 := Lib.hid (Held.later K0.out (show Later _ w1 from hb))
  have z1 := Later.size (show Later _ w1 from hb)
  try simp only [World.size_alloc] at z1
  clear hb
  clear K0
  obtain ⟨nX, hnX⟩ : ∃ n, n = l.length := ⟨_, rfl⟩
  rw [← hnX] at OX ⊢
  have HNX := Lib.hid hnX
  clear hnX
  have K2 := Lib.hid (ht_box2 K1.out (.int .i64 Bt) (.slice aX nX cX) 26)
  clear K1
  have OX' := Lib.hid (OX.out.alloc (.cells #[.int .i64 Bt, .slice aX nX cX] 26))
  clear OX
  have OX := OX'
  clear OX'
  obtain ⟨c0, c1, _⟩ := Held.s2 K2.out
  go_wp2_with fail
  clear c0 c1
  refine (i_TrafficText Bt aX nX cX l _ (own_slT OX.out) (HT.out.later (show Later w _ from K2.out.2))).mono ?_
  rintro e w2 ⟨rfl, hb⟩
  have K3 := Lib.hid (Held.later K2.out (show Later _ w2 from hb))
  have z2 := Later.size (show Later _ w2 from hb)
  try simp only [World.size_alloc] at z2
  have OX' := Lib.hid (tf_lat OX.out (show Later _ w2 from hb))
  clear OX
  have OX := OX'
  clear OX'
  clear hb
  clear K2
  obtain ⟨tb, htb⟩ : ∃ t, t = tx (tfTx Bt l) := ⟨_, rfl⟩
  have htl := tfTx_len Bt l
  rw [← tx_size, ← htb] at htl
  rw [← htb]
  have HTB := Lib.hid htb
  obtain ⟨B1, V1, ok1, hV1, hRF1, hy1, hn1⟩ := rf_same tb.data.toList
  have IC1 := Lib.hid (IR.out tb (by omega) B1 V1 ok1 hRF1)
  have hfin : (tfB Bt l = true ∧ ok1 = true ∧ B1 = Bt ∧ V1 = l ∧ tb.toList.isEmpty = false) ∨ (ok1 = false ∧ tb.toList.isEmpty = true) := by
    have hd : tb.data.toList = tfTx Bt l := by rw [htb]; simp [tx]
    cases hv : tfB Bt l
    · refine .inr ⟨?_, by rw [htb]; exact tfTx_no hv⟩
      cases ok1
      · rfl
      · have h := hy1 rfl
        rw [hd] at h
        have e0 : tfTx Bt l = [] := by unfold tfTx; rw [hv]; rfl
        rw [e0] at h
        exact absurd h (isTx_nil _ _)
    · refine .inl ⟨rfl, ?_⟩
      have hi := tf_isTx hv
      cases ok1
      · have h := (hn1 rfl).2.2 Bt l
        rw [hd] at h
        exact absurd hi h
      · have h := hy1 rfl
        rw [hd] at h
        obtain ⟨g1, g2⟩ := isTx_inj h hi
        exact ⟨rfl, g1, g2, by rw [htb]; exact tfTx_yes hv⟩
  have HFIN := Lib.hid hfin
  clear hfin htb hRF1 hy1 hn1
  obtain ⟨c0, c1, _⟩ := Held.s2 K3.out
  go_wp2_with fail
  clear c0 c1
  refine (IC1.out _ (show Later w _ from K3.out.2)).mono ?_
  rintro e w3 ⟨vY, rfl, ho, hb⟩
  obtain ⟨aY, cY, rfl, _, _⟩ := ho.sl
  have OY := Lib.hid ho
  clear ho
  have K4 := Lib.hid (Held.later K3.out (show Later _ w3 from hb))
  have z3 := Later.size (show Later _ w3 from hb)
  try simp only [World.size_alloc] at z3
  have OX' := Lib.hid (tf_lat OX.out (show Later _ w3 from hb))
  clear OX
  have OX := OX'
  clear OX'
  clear hb
  clear K3
  obtain ⟨nY, hnY⟩ : ∃ n, n = V1.length := ⟨_, rfl⟩
  rw [← hnY] at OY ⊢
  clear hnY
  have K5 := Lib.hid (ht_box2 K4.out (.int .i64 B1) (.slice aY nY cY) 26)
  clear K4
  have OX' := Lib.hid (OX.out.alloc (.cells #[.int .i64 B1, .slice aY nY cY] 26))
  clear OX
  have OX := OX'
  clear OX'
  have OY' := Lib.hid (OY.out.alloc (.cells #[.int .i64 B1, .slice aY nY cY] 26))
  clear OY
  have OY := OY'
  clear OY'
  obtain ⟨c0, c1, c2, c3, _⟩ := Held.s4 K5.out
  go_wp2_with fail
  clear c0 c1 c2 c3
  refine (s_DrawReadTraffic _ _ _ _ (HS.out.later (show Later w _ from K5.out.2))).mono ?_
  rintro e w4 ⟨s, rfl, hs6, hb⟩
  have K6 := Lib.hid (Held.later K5.out (show Later _ w4 from hb))
  have z4 := Later.size (show Later _ w4 from hb)
  try simp only [World.size_alloc] at z4
  have OX' := Lib.hid (tf_lat OX.out (show Later _ w4 from hb))
  clear OX
  have OX := OX'
  clear OX'
  have OY' := Lib.hid (tf_lat OY.out (show Later _ w4 from hb))
  clear OY
  have OY := OY'
  clear OY'
  clear hb
  clear K5
  obtain ⟨B2, V2, ok2, hV2, hRF2, hy2, hn2⟩ := rf_same s.data.toList
  have IC2 := Lib.hid (IR.out s (by omega) B2 V2 ok2 hRF2)
  have SC2 : Hid (∀ W, Calls Tryd.prog 11 #[.string s] W (NewRF W B2 V2 ok2)) := Lib.hid (fun W => (s_ReadTraffic s W (by omega)).mono (fun e w' h => hRF2 _ _ _ h))
  have HY2 := Lib.hid hy2
  clear hRF2 hn2 hy2
  obtain ⟨c0, c1, c2, c3, _⟩ := Held.s4 K6.out
  go_wp2_with fail
  clear c0 c1 c2 c3
  refine (IC2.out _ (show Later w _ from K6.out.2)).mono ?_
  rintro e w5 ⟨vZ, rfl, ho, hb⟩
  obtain ⟨aZ, cZ, rfl, _, _⟩ := ho.sl
  have OZ := Lib.hid ho
  clear ho
  have K7 := Lib.hid (Held.later K6.out (show Later _ w5 from hb))
  have z5 := Later.size (show Later _ w5 from hb)
  try simp only [World.size_alloc] at z5
  have OX' := Lib.hid (tf_lat OX.out (show Later _ w5 from hb))
  clear OX
  have OX := OX'
  clear OX'
  have OY' := Lib.hid (tf_lat OY.out (show Later _ w5 from hb))
  clear OY
  have OY := OY'
  clear OY'
  clear hb
  clear K6
  obtain ⟨nZ, hnZ⟩ : ∃ n, n = V2.length := ⟨_, rfl⟩
  rw [← hnZ] at OZ ⊢
  have HNZ := Lib.hid hnZ
  clear hnZ
  have K8 := Lib.hid (ht_box2 K7.out (.int .i64 B2) (.slice aZ nZ cZ) 26)
  clear K7
  have OX' := Lib.hid (OX.out.alloc (.cells #[.int .i64 B2, .slice aZ nZ cZ] 26))
  clear OX
  have OX := OX'
  clear OX'
  have OY' := Lib.hid (OY.out.alloc (.cells #[.int .i64 B2, .slice aZ nZ cZ] 26))
  clear OY
  have OY := OY'
  clear OY'
  have OZ' := Lib.hid (OZ.out.alloc (.cells #[.int .i64 B2, .slice aZ nZ cZ] 26))
  clear OZ
  have OZ := OZ'
  clear OZ'
  obtain ⟨c0, c1, c2, c3, c4, c5, _⟩ := Held.s6 K8.out
  go_wp2_with fail
  clear c0 c1 c2 c3 c4 c5
  refine (SC2.out _).mono ?_
  rintro e w6 ⟨vQ, rfl, ho, hb⟩
  obtain ⟨aQ, cQ, rfl, _, _⟩ := ho.sl
  have OQ := Lib.hid ho
  clear ho
  have K9 := Lib.hid (Held.later K8.out (show Later _ w6 from hb))
  have z6 := Later.size (show Later _ w6 from hb)
  try simp only [World.size_alloc] at z6
  have OX' := Lib.hid (tf_lat OX.out (show Later _ w6 from hb))
  clear OX
  have OX := OX'
  clear OX'
  have OY' := Lib.hid (tf_lat OY.out (show Later _ w6 from hb))
  clear OY
  have OY := OY'
  clear OY'
  have OZ' := Lib.hid (tf_lat OZ.out (show Later _ w6 from hb))
  clear OZ
  have OZ := OZ'
  clear OZ'
  clear hb
  clear K8
  rw [← HNZ.out] at OQ ⊢
  have K10 := Lib.hid (ht_box2 K9.out (.int .i64 B2) (.slice aQ nZ cQ) 26)
  clear K9
  have OX' := Lib.hid (OX.out.alloc (.cells #[.int .i64 B2, .slice aQ nZ cQ] 26))
  clear OX
  have OX := OX'
  clear OX'
  have OY' := Lib.hid (OY.out.alloc (.cells #[.int .i64 B2, .slice aQ nZ cQ] 26))
  clear OY
  have OY := OY'
  clear OY'
  have OZ' := Lib.hid (OZ.out.alloc (.cells #[.int .i64 B2, .slice aQ nZ cQ] 26))
  clear OZ
  have OZ := OZ'
  clear OZ'
  have OQ' := Lib.hid (OQ.out.alloc (.cells #[.int .i64 B2, .slice aQ nZ cQ] 26))
  clear OQ
  have OQ := OQ'
  clear OQ'
  obtain ⟨c0, c1, c2, c3, c4, c5, c6, c7, _⟩ := Held.s8 K10.out
  go_wp2_with fail
  clear c0 c1 c2 c3 c4 c5 c6 c7
  refine (s_TrafficText Bt aX nX cX l _ (own_slT OX.out)).mono ?_
  rintro e w7 ⟨rfl, hb⟩
  have K11 := Lib.hid (Held.later K10.out (show Later _ w7 from hb))
  have z7 := Later.size (show Later _ w7 from hb)
  try simp only [World.size_alloc] at z7
  have OX' := Lib.hid (tf_lat OX.out (show Later _ w7 from hb))
  clear OX
  have OX := OX'
  clear OX'
  have OY' := Lib.hid (tf_lat OY.out (show Later _ w7 from hb))
  clear OY
  have OY := OY'
  clear OY'
  have OZ' := Lib.hid (tf_lat OZ.out (show Later _ w7 from hb))
  clear OZ
  have OZ := OZ'
  clear OZ'
  have OQ' := Lib.hid (tf_lat OQ.out (show Later _ w7 from hb))
  clear OQ
  have OQ := OQ'
  clear OQ'
  clear hb
  clear K10
  rw [← HTB.out]
  have e1 : (tb.toList == tb.toList) = true := by simp
  have eo : (ok2 == ok2) = true := by simp
  rcases HFIN.out with ⟨_, rfl, rfl, rfl, e2⟩ | ⟨rfl, e2⟩
  · cases ok2
    · skip
      obtain ⟨c0, c1, c2, c3, c4, c5, c6, c7, _⟩ := Held.s8 K11.out
      go_wp2_with fail
      clear c0 c1 c2 c3 c4 c5 c6 c7
      refine (l_likeTraffic9 _ _ _ _ _ _ _ V1 _ (own_slT OY.out) (own_slT OX.out)).mono ?_
      rintro e w8 ⟨rfl, hb⟩
      have K12 := Lib.hid (Held.later K11.out (show Later _ w8 from hb))
      have z8 := Later.size (show Later _ w8 from hb)
      try simp only [World.size_alloc] at z8
      have OX' := Lib.hid (tf_lat OX.out (show Later _ w8 from hb))
      clear OX
      have OX := OX'
      clear OX'
      have OY' := Lib.hid (tf_lat OY.out (show Later _ w8 from hb))
      clear OY
      have OY := OY'
      clear OY'
      have OZ' := Lib.hid (tf_lat OZ.out (show Later _ w8 from hb))
      clear OZ
      have OZ := OZ'
      clear OZ'
      have OQ' := Lib.hid (tf_lat OQ.out (show Later _ w8 from hb))
      clear OQ
      have OQ := OQ'
      clear OQ'
      clear hb
      clear K11
      obtain ⟨c0, c1, c2, c3, c4, c5, c6, c7, _⟩ := Held.s8 K12.out
      go_wp2_with fail
      clear c0 c1 c2 c3 c4 c5 c6 c7
      refine (l_likeTraffic9 _ _ _ _ _ _ _ V2 _ (own_slT OZ.out) (own_slT OQ.out)).mono ?_
      rintro e w9 ⟨rfl, hb⟩
      have K13 := Lib.hid (Held.later K12.out (show Later _ w9 from hb))
      have z9 := Later.size (show Later _ w9 from hb)
      try simp only [World.size_alloc] at z9
      have OX' := Lib.hid (tf_lat OX.out (show Later _ w9 from hb))
      clear OX
      have OX := OX'
      clear OX'
      have OY' := Lib.hid (tf_lat OY.out (show Later _ w9 from hb))
      clear OY
      have OY := OY'
      clear OY'
      have OZ' := Lib.hid (tf_lat OZ.out (show Later _ w9 from hb))
      clear OZ
      have OZ := OZ'
      clear OZ'
      have OQ' := Lib.hid (tf_lat OQ.out (show Later _ w9 from hb))
      clear OQ
      have OQ := OQ'
      clear OQ'
      clear hb
      clear K12
      obtain ⟨c0, c1, c2, c3, c4, c5, c6, c7, _⟩ := Held.s8 K13.out
      go_wp2_with fail
      clear c0 c1 c2 c3 c4 c5 c6 c7
      go_ret
      exact ⟨rfl, K13.out.2⟩
    · skip
      have h2 := HY2.out rfl
      have e3 : ((tx (tfTx B2 V2)).toList == s.toList) = true := by
        rw [Lib.toList_data, Lib.toList_data, ← isTx_tf h2]; simp [tx]
      clear h2
      obtain ⟨c0, c1, c2, c3, c4, c5, c6, c7, _⟩ := Held.s8 K11.out
      go_wp2_with fail
      clear c0 c1 c2 c3 c4 c5 c6 c7
      refine (l_likeTraffic9 _ _ _ _ _ _ _ V1 _ (own_slT OY.out) (own_slT OX.out)).mono ?_
      rintro e w8 ⟨rfl, hb⟩
      have K12 := Lib.hid (Held.later K11.out (show Later _ w8 from hb))
      have z8 := Later.size (show Later _ w8 from hb)
      try simp only [World.size_alloc] at z8
      have OX' := Lib.hid (tf_lat OX.out (show Later _ w8 from hb))
      clear OX
      have OX := OX'
      clear OX'
      have OY' := Lib.hid (tf_lat OY.out (show Later _ w8 from hb))
      clear OY
      have OY := OY'
      clear OY'
      have OZ' := Lib.hid (tf_lat OZ.out (show Later _ w8 from hb))
      clear OZ
      have OZ := OZ'
      clear OZ'
      have OQ' := Lib.hid (tf_lat OQ.out (show Later _ w8 from hb))
      clear OQ
      have OQ := OQ'
      clear OQ'
      clear hb
      clear K11
      obtain ⟨c0, c1, c2, c3, c4, c5, c6, c7, _⟩ := Held.s8 K12.out
      go_wp2_with fail
      clear c0 c1 c2 c3 c4 c5 c6 c7
      refine (l_likeTraffic9 _ _ _ _ _ _ _ V2 _ (own_slT OZ.out) (own_slT OQ.out)).mono ?_
      rintro e w9 ⟨rfl, hb⟩
      have K13 := Lib.hid (Held.later K12.out (show Later _ w9 from hb))
      have z9 := Later.size (show Later _ w9 from hb)
      try simp only [World.size_alloc] at z9
      have OX' := Lib.hid (tf_lat OX.out (show Later _ w9 from hb))
      clear OX
      have OX := OX'
      clear OX'
      have OY' := Lib.hid (tf_lat OY.out (show Later _ w9 from hb))
      clear OY
      have OY := OY'
      clear OY'
      have OZ' := Lib.hid (tf_lat OZ.out (show Later _ w9 from hb))
      clear OZ
      have OZ := OZ'
      clear OZ'
      have OQ' := Lib.hid (tf_lat OQ.out (show Later _ w9 from hb))
      clear OQ
      have OQ := OQ'
      clear OQ'
      clear hb
      clear K12
      obtain ⟨c0, c1, c2, c3, c4, c5, c6, c7, _⟩ := Held.s8 K13.out
      go_wp2_with fail
      clear c0 c1 c2 c3 c4 c5 c6 c7
      refine (i_TrafficText B2 aZ nZ cZ V2 _ (own_slT OZ.out) (HT.out.later (show Later w _ from K13.out.2))).mono ?_
      rintro e w10 ⟨rfl, hb⟩
      have K14 := Lib.hid (Held.later K13.out (show Later _ w10 from hb))
      have z10 := Later.size (show Later _ w10 from hb)
      try simp only [World.size_alloc] at z10
      have OX' := Lib.hid (tf_lat OX.out (show Later _ w10 from hb))
      clear OX
      have OX := OX'
      clear OX'
      have OY' := Lib.hid (tf_lat OY.out (show Later _ w10 from hb))
      clear OY
      have OY := OY'
      clear OY'
      have OZ' := Lib.hid (tf_lat OZ.out (show Later _ w10 from hb))
      clear OZ
      have OZ := OZ'
      clear OZ'
      have OQ' := Lib.hid (tf_lat OQ.out (show Later _ w10 from hb))
      clear OQ
      have OQ := OQ'
      clear OQ'
      clear hb
      clear K13
      obtain ⟨c0, c1, c2, c3, c4, c5, c6, c7, _⟩ := Held.s8 K14.out
      go_wp2_with fail
      clear c0 c1 c2 c3 c4 c5 c6 c7
      go_ret
      exact ⟨rfl, K14.out.2⟩
  · cases ok2
    · skip
      obtain ⟨c0, c1, c2, c3, c4, c5, c6, c7, _⟩ := Held.s8 K11.out
      go_wp2_with fail
      clear c0 c1 c2 c3 c4 c5 c6 c7
      refine (l_likeTraffic9 _ _ _ _ _ _ _ V2 _ (own_slT OZ.out) (own_slT OQ.out)).mono ?_
      rintro e w8 ⟨rfl, hb⟩
      have K12 := Lib.hid (Held.later K11.out (show Later _ w8 from hb))
      have z8 := Later.size (show Later _ w8 from hb)
      try simp only [World.size_alloc] at z8
      have OX' := Lib.hid (tf_lat OX.out (show Later _ w8 from hb))
      clear OX
      have OX := OX'
      clear OX'
      have OY' := Lib.hid (tf_lat OY.out (show Later _ w8 from hb))
      clear OY
      have OY := OY'
      clear OY'
      have OZ' := Lib.hid (tf_lat OZ.out (show Later _ w8 from hb))
      clear OZ
      have OZ := OZ'
      clear OZ'
      have OQ' := Lib.hid (tf_lat OQ.out (show Later _ w8 from hb))
      clear OQ
      have OQ := OQ'
      clear OQ'
      clear hb
      clear K11
      obtain ⟨c0, c1, c2, c3, c4, c5, c6, c7, _⟩ := Held.s8 K12.out
      go_wp2_with fail
      clear c0 c1 c2 c3 c4 c5 c6 c7
      go_ret
      exact ⟨rfl, K12.out.2⟩
    · skip
      have h2 := HY2.out rfl
      have e3 : ((tx (tfTx B2 V2)).toList == s.toList) = true := by
        rw [Lib.toList_data, Lib.toList_data, ← isTx_tf h2]; simp [tx]
      clear h2
      obtain ⟨c0, c1, c2, c3, c4, c5, c6, c7, _⟩ := Held.s8 K11.out
      go_wp2_with fail
      clear c0 c1 c2 c3 c4 c5 c6 c7
      refine (l_likeTraffic9 _ _ _ _ _ _ _ V2 _ (own_slT OZ.out) (own_slT OQ.out)).mono ?_
      rintro e w8 ⟨rfl, hb⟩
      have K12 := Lib.hid (Held.later K11.out (show Later _ w8 from hb))
      have z8 := Later.size (show Later _ w8 from hb)
      try simp only [World.size_alloc] at z8
      have OX' := Lib.hid (tf_lat OX.out (show Later _ w8 from hb))
      clear OX
      have OX := OX'
      clear OX'
      have OY' := Lib.hid (tf_lat OY.out (show Later _ w8 from hb))
      clear OY
      have OY := OY'
      clear OY'
      have OZ' := Lib.hid (tf_lat OZ.out (show Later _ w8 from hb))
      clear OZ
      have OZ := OZ'
      clear OZ'
      have OQ' := Lib.hid (tf_lat OQ.out (show Later _ w8 from hb))
      clear OQ
      have OQ := OQ'
      clear OQ'
      clear hb
      clear K11
      obtain ⟨c0, c1, c2, c3, c4, c5, c6, c7, _⟩ := Held.s8 K12.out
      go_wp2_with fail
      clear c0 c1 c2 c3 c4 c5 c6 c7
      refine (i_TrafficText B2 aZ nZ cZ V2 _ (own_slT OZ.out) (HT.out.later (show Later w _ from K12.out.2))).mono ?_
      rintro e w9 ⟨rfl, hb⟩
      have K13 := Lib.hid (Held.later K12.out (show Later _ w9 from hb))
      have z9 := Later.size (show Later _ w9 from hb)
      try simp only [World.size_alloc] at z9
      have OX' := Lib.hid (tf_lat OX.out (show Later _ w9 from hb))
      clear OX
      have OX := OX'
      clear OX'
      have OY' := Lib.hid (tf_lat OY.out (show Later _ w9 from hb))
      clear OY
      have OY := OY'
      clear OY'
      have OZ' := Lib.hid (tf_lat OZ.out (show Later _ w9 from hb))
      clear OZ
      have OZ := OZ'
      clear OZ'
      have OQ' := Lib.hid (tf_lat OQ.out (show Later _ w9 from hb))
      clear OQ
      have OQ := OQ'
      clear OQ'
      clear hb
      clear K12
      obtain ⟨c0, c1, c2, c3, c4, c5, c6, c7, _⟩ := Held.s8 K13.out
      go_wp2_with fail
      clear c0 c1 c2 c3 c4 c5 c6 c7
      go_ret
      exact ⟨rfl, K13.out.2⟩
end Go.Proofs.YtdaihpkjnigjgaaDoor
