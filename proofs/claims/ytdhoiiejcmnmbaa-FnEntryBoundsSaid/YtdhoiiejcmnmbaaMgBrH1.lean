/- The state of a function that draws a layout and hands it back in a cell. | Plain words of chapter 5: trains and sensors on the track. No program in sight. | Drawn lengths and distances of chapter 5. | The draws of RearOf and MoveFront. | Contracts of chapter 5: the program's small functions. | Contracts of chapter 5: the model's small functions; rears, moves, gaps. | Drawn fronts and sensors of chapter 5. | Drawn fronts of chapter 5. | The draws of GapAhead and AreSeparate. | Contracts of chapter 5: rears, moves, gaps, separate trains: the program's functions. | Contracts of chapter 5: sensors: the program's small functions. | Contracts of chapter 5: lists that are joined. | The draws of SensorsPassed and SensorsCovered. | The draws of BlockAt, MergeBlocks and BlockLoads. | Plain words of chapter 6: energies, the change of a segment, the verdicts. No program in sight. | Plain words of chapter 7: brakes, their work, stopping distances, the verdicts on a stop. No program in sight. | Plain words of chapter 6: runs of segments, the sums along a run, the energies behind them, the energy that is needed. No program in sight. | Plain words of chapter 7: the energies with which a train may enter a block, and where it stops. No program in sight. | Contracts of chapter 2: the program's own methods on intervals. | Contracts of chapter 2: the program's operations on intervals. | Contracts of chapter 2: the program's functions of two intervals. | Contracts of chapter 2: the common part, scaling, tests, comparisons, of the program. | Contracts of chapter 6: the program's functions on one segment. | Contracts of chapter 6: the program's verdict on a segment, the energy behind it. | Contracts of chapter 7: the work of a brake, of the program. | The quotients of an interval by another one, rounded outward: of the program. | Contracts of chapter 7: stopping distances and the greatest energy with which a train stops, of the program. | Contracts of chapter 6: the energy behind a segment, of the program; the closure that sums. | Contracts of the laws' own helpers on intervals. | Contracts of the laws' own helpers on segments. | Contracts of the laws' own helpers on slices of segments and layouts. | Marks that the exact laws write into layouts. | Contracts of chapter 6: the closure that sums the changes along a run, of the program. | Contracts of chapter 7: the energies with which a train may enter a block, of the program. | Contracts of chapter 6: the segments of a run, of the program. | Slices of structs of numbers, each struct wd cells wide: what the walks say of them (for every such type). | Slices of intervals, as the laws compare, mark and read them; one interval appended. | Contracts of chapter 6: the energies along a run, of the program. | Contracts of chapter 7: the bounds of the energies with which a train may enter a block, of the program. | Contracts of chapter 7: may a train enter a block, of the program. | Contracts of chapter 1's divisions, of the program and of the model. | Contracts of the roots. -/
import Derived.Test.YtdhoiiejcmnmbaaSgH
import Derived.Test.YtdhoiiejcmnmbaaBkM
import Derived.IntWalk
import Derived.Test.YtdhoiiejcmnmbaaOwn
import Derived.Test.YtdhoiiejcmnmbaaHeld
import Derived.Outline
import Derived.Laws.ResultCell
import Derived.Test.YtdhoiiejcmnmbaaSgUT
import Derived.Test.YtdhoiiejcmnmbaaApp
import Derived.WalkSmall
import Derived.Deep.DeepMust
import Derived.Test.YtdhoiiejcmnmbaaSgIT
import Derived.Test.YtdhoiiejcmnmbaaList
import Derived.Test.YtdhoiiejcmnmbaaSgO
import Derived.Test.YtdhoiiejcmnmbaaBkW
import Derived.Test.YtdhoiiejcmnmbaaSgM
import Derived.Test.YtdhoiiejcmnmbaaMath
import Derived.Test.YtdhoiiejcmnmbaaIvN
import Derived.Test.YtdhoiiejcmnmbaaSg1
import Derived.RegionTactic
import Derived.ChangeAlike
import Derived.BigQuiet
import Derived.Deep.QuietTactic
import Derived.Deep.RegionWith
import Derived.Test.YtdhoiiejcmnmbaaSgs
import Derived.Test.YtdhoiiejcmnmbaaGrown
import Derived.Test.YtdhoiiejcmnmbaaBkL
import Derived.Test.YtdhoiiejcmnmbaaSgI
import Derived.Test.YtdhoiiejcmnmbaaOwnS
import Derived.Deep.RegionLaw
import Derived.Test.YtdhoiiejcmnmbaaSl
import Derived.Test.YtdhoiiejcmnmbaaBkT
import Derived.Test.YtdhoiiejcmnmbaaDivD
import Derived.WalkMore
namespace Go.Proofs.Ytdhoiiejcmnmbaa
open Go.RowKit
set_option maxHeartbeats 2000000
set_option linter.unusedVariables false
set_option linter.unusedSimpArgs false
theorem Sgs.grown0 {w w' : World} {a : Option Addr} {n : Nat} {L : List Sg} {row : Option Nat} (h : Sgs w a n L) (hg : w.grownBy w' row) (hne : ∀ x, a = some x → 0 < n → row ≠ some x.block) : Sgs w' a n L := by
  obtain ⟨h1, h2, h3, h4⟩ := h
  refine ⟨h1, h2, fun k hk => ?_, h4⟩
  obtain ⟨b, off, rfl, hc⟩ := h3 k hk
  exact ⟨b, off, rfl, fun j hj => hg.cell (hc j hj) (fun e => hne ⟨b, off, none⟩ rfl (by omega) e.symm)⟩
/-- boxes of its own, the source, the drawn layout; g: the block of the result's cell -/
def DL (l : List (Nat × Nat × Value)) (g : Nat) (a' : Option Addr) (n : Nat) (L : List Sg) (B : Nat) (a : Option Addr) (len cap : Nat) (w0 W : World) : Prop :=
  St l B a len cap w0 W ∧ Sgs W a' n L ∧ ∀ x, a' = some x → 0 < n → x.block ≠ B ∧ x.block ≠ g
section
variable {l : List (Nat × Nat × Value)} {g : Nat} {a' : Option Addr} {n : Nat} {L : List Sg} {B : Nat} {a : Option Addr} {len cap : Nat} {w0 W W1 : World}
theorem DL.st (h : DL l g a' n L B a len cap w0 W) : St l B a len cap w0 W := h.1
theorem DL.src (h : DL l g a' n L B a len cap w0 W) : Src W B a len cap := h.1.src
theorem DL.sg (h : DL l g a' n L B a len cap w0 W) : Sgs W a' n L := h.2.1
theorem DL.nB (h : DL l g a' n L B a len cap w0 W) : ∀ x, a' = some x → 0 < n → x.block ≠ B := fun x hx hn => (h.2.2 x hx hn).1
theorem DL.call (h : DL l g a' n L B a len cap w0 W) (src : Src W1 B a len cap) (gr : W.grownBy W1 (some B)) : DL l g a' n L B a len cap w0 W1 :=
  ⟨h.1.call src gr, h.2.1.grown0 gr (fun x hx hn e => (h.2.2 x hx hn).1 (Option.some.inj e).symm), h.2.2⟩
theorem DL.later (h : DL l g a' n L B a len cap w0 W) (k : Later W W1) : DL l g a' n L B a len cap w0 W1 := ⟨h.1.later k, h.2.1.later k, h.2.2⟩
theorem DL.alloc (h : DL l g a' n L B a len cap w0 W) (o : Obj) : DL l g a' n L B a len cap w0 (W.alloc o) := h.later ((Later.refl _).alloc o)
theorem DL.drew (h : DL l g a' n L B a len cap w0 W) : DL l g a' n L B a len cap w0 W.drew := h.later (Later.refl _).drew
theorem DL.drewN (h : DL l g a' n L B a len cap w0 W) (q : Nat) : DL l g a' n L B a len cap w0 (W.drewN q) := h.later ((Later.refl _).drewN q)
theorem DL.box (h : DL l g a' n L B a len cap w0 W) (v0 : Value) (T : TypeId) : DL ((W.heap.size, 0, v0) :: l) g a' n L B a len cap w0 (W.alloc (.cells #[v0] T)) :=
  ⟨h.1.box1 v0 T, h.2.1.later ((Later.refl _).alloc _), h.2.2⟩
theorem DL.c1 {b o : Nat} {v : Value} (h : DL ((b, o, v) :: l) g a' n L B a len cap w0 W) : W.cell? ⟨b, o, none⟩ = some v := (h.1.at b o v (by simp)).1
/-- a cell that lay there at the start -/
theorem DL.old (h : DL l g a' n L B a len cap w0 W) {b o : Nat} {v : Value} (hc : w0.cell? ⟨b, o, none⟩ = some v) (hb : b ≠ B) : W.cell? ⟨b, o, none⟩ = some v := h.1.grown.cell hc (by simpa using hb)
theorem DL.oldF (h : DL l g a' n L B a len cap w0 W) {b o : Nat} {v : Value} (hc : w0.cell? ⟨b, o, none⟩ = some v) (hf : w0.frozen? ⟨b, o, none⟩ = false) (hb : b ≠ B) : W.frozen? ⟨b, o, none⟩ = false := by
  rw [World.frozen?_of_block (w := w0) (h.1.grown.block b (cell_lt hc) (by simpa using hb))]; exact hf
theorem DL.set (h : DL l g a' n L B a len cap w0 W) (u : Value) (j : Nat) : Sgs (W.setCell ⟨g, j, none⟩ u) a' n L := by
  obtain ⟨h1, h2, h3, h4⟩ := h.2.1
  refine ⟨h1, h2, fun k hk => ?_, h4⟩
  obtain ⟨b, off, e, hcl⟩ := h3 k hk
  have hne := (h.2.2 _ e (by omega)).2
  refine ⟨b, off, e, fun i hi => ?_⟩
  rw [World.cell?_setCell_far _ _ _ _ (Ne.symm hne)]
  exact hcl i hi
end
/-- how such a function begins: the result's cell, the source out of the code, the layout -/
theorem dl_begin0 {w w1 w2 : World} {a : Option Addr} {len cap : Nat} {T : TypeId} {a' : Option Addr} {n : Nat} {L : List Sg} (src : Src w1 (w.heap.size + 1) a len cap) (bel : Below (w.heap.size + 1) (w.alloc (.cells #[.slice none 0 0] T)) w1)
    (hl : Sgs w2 a' n L) (hbl : ∀ x, a' = some x → 0 < n → w1.heap.size ≤ x.block) (src2 : Src w2 (w.heap.size + 1) a len cap) (gr : w1.grownBy w2 (some (w.heap.size + 1))) :
    DL [] w.heap.size a' n L (w.heap.size + 1) a len cap w1 w2 ∧ Below w.heap.size w w1 ∧ w1.cell? ⟨w.heap.size, 0, none⟩ = some (.slice none 0 0) ∧ w1.frozen? ⟨w.heap.size, 0, none⟩ = false ∧ w.heap.size + 1 < w1.heap.size := by
  have hlt := src.lt
  refine ⟨⟨(St.begin src).call src2 gr, hl, fun x hx hn => ⟨by have := hbl x hx hn; omega, by have := hbl x hx hn; omega⟩⟩, ((Below.refl _ _).alloc (Nat.le_refl _) _).trans (bel.mono (Nat.le_succ _)), ?_, ?_, hlt⟩
  · rw [bel.cell (p := ⟨w.heap.size, 0, none⟩) (Nat.lt_succ_self _)]; simp
  · rw [Below.frozen (p := ⟨w.heap.size, 0, none⟩) bel (Nat.lt_succ_self _)]; simp
theorem dl_begin {w w1 w2 : World} {a : Option Addr} {len cap : Nat} {T : TypeId} {a' : Option Addr} {n : Nat} {L : List Sg} (src : Src w1 (w.heap.size + 1) a len cap) (bel : Below (w.heap.size + 1) (w.alloc (.cells #[.slice none 0 0] T)) w1)
    (hl : Sgs w2 a' n L) (hbl : ∀ x, a' = some x → w1.heap.size ≤ x.block) (src2 : Src w2 (w.heap.size + 1) a len cap) (gr : w1.grownBy w2 (some (w.heap.size + 1))) :
    DL [] w.heap.size a' n L (w.heap.size + 1) a len cap w1 w2 ∧ Below w.heap.size w w1 ∧ w1.cell? ⟨w.heap.size, 0, none⟩ = some (.slice none 0 0) ∧ w1.frozen? ⟨w.heap.size, 0, none⟩ = false ∧ w.heap.size + 1 < w1.heap.size :=
  dl_begin0 src bel hl (fun x hx _ => hbl x hx) src2 gr
/-- and how it ends -/
theorem dl_below {l : List (Nat × Nat × Value)} {w w1 W : World} {a : Option Addr} {len cap : Nat} {a' : Option Addr} {n : Nat} {L : List Sg} {g : Nat} (h : DL l g a' n L (w.heap.size + 1) a len cap w1 W) (hb : Below w.heap.size w w1) : Below w.heap.size w W :=
  hb.grown h.1.grown hb.size (fun k e => by have := Option.some.inj e; omega)
end Go.Proofs.Ytdhoiiejcmnmbaa
namespace Go.Proofs.Ytdhoiiejcmnmbaa
set_option linter.unusedSimpArgs false
set_option linter.unusedVariables false
/-- a position of the track -/
def isP (T p : Int) : Bool := decide (0 ≤ p) && decide (p < T)
theorem isP_iff (T p : Int) : isP T p = true ↔ 0 ≤ p ∧ p < T := by unfold isP; simp
theorem isP_no (T p : Int) : isP T p = false ↔ ¬ (0 ≤ p ∧ p < T) := by rw [← isP_iff]; simp
/-- a length of trains that fit on the track -/
def isN (T n : Int) : Bool := decide (1 ≤ n) && decide (n ≤ 40000) && decide (n ≤ T)
theorem isN_iff (T n : Int) : isN T n = true ↔ 1 ≤ n ∧ n ≤ 40000 ∧ n ≤ T := by unfold isN; simp [and_assoc]
theorem isN_no (T n : Int) : isN T n = false ↔ ¬ (1 ≤ n ∧ n ≤ 40000 ∧ n ≤ T) := by rw [← isN_iff]; simp
/-- all of these are positions -/
def allP (T : Int) (F : List Int) : Bool := F.all (isP T)
def trsB (T n : Int) (F : List Int) : Bool := isN T n && allP T F
def mvB (T p d : Int) : Bool := isP T p && (decide (0 ≤ d) && decide (d ≤ T))
theorem mvB_iff (T p d : Int) : mvB T p d = true ↔ (0 ≤ p ∧ p < T) ∧ 0 ≤ d ∧ d ≤ T := by unfold mvB; simp [isP_iff]
theorem mvB_no (T p d : Int) : mvB T p d = false ↔ ¬ ((0 ≤ p ∧ p < T) ∧ 0 ≤ d ∧ d ≤ T) := by rw [← mvB_iff]; simp
theorem trsB_nil (T n : Int) : trsB T n [] = isN T n := by simp [trsB, allP]
theorem trsB_one (T n p : Int) : trsB T n [p] = (isN T n && isP T p) := by simp [trsB, allP]
theorem trsB_two (T n p q : Int) : trsB T n [p, q] = (isN T n && (isP T p && isP T q)) := by simp [trsB, allP]
theorem tot_bd {L : List Sg} (h : layB L = true) : 3 ≤ totL L ∧ totL L ≤ 4800000 := by
  obtain ⟨h3, h24, ho, _⟩ := (layB_iff L).1 h
  have := up_bd L L.length (Nat.le_refl _) ho
  unfold totL; omega
/-- the codes -/
def trE (L : List Sg) (p n : Int) : Int := if layB L = true then (if trsB (totL L) n [p] = true then 0 else 2) else 1
def mvE (L : List Sg) (p d : Int) : Int := if layB L = true then (if mvB (totL L) p d = true then 0 else 2) else 1
theorem trE_bad {L : List Sg} {p n : Int} (h : layB L = false) : trE L p n = 1 := by unfold trE; rw [h]; rfl
theorem mvE_bad {L : List Sg} {p n : Int} (h : layB L = false) : mvE L p n = 1 := by unfold mvE; rw [h]; rfl
theorem trE_ok {L : List Sg} {p n : Int} (h : trE L p n = 0) : layB L = true ∧ isN (totL L) n = true ∧ isP (totL L) p = true := by
  unfold trE at h
  split at h
  · split at h
    · rename_i a b
      rw [trsB_one, Bool.and_eq_true] at b
      exact ⟨a, b⟩
    · omega
  · omega
theorem trE_yes {L : List Sg} {p n : Int} (h : layB L = true) (hn : isN (totL L) n = true) (hp : isP (totL L) p = true) : trE L p n = 0 := by
  unfold trE; rw [if_pos h, if_pos (by rw [trsB_one, hn, hp]; rfl)]
theorem trE_no {L : List Sg} {p n : Int} (h : layB L = true) (hp : (isN (totL L) n && isP (totL L) p) = false) : trE L p n = 2 := by
  unfold trE; rw [if_pos h, if_neg (by rw [trsB_one, hp]; simp)]
theorem mvE_ok {L : List Sg} {p d : Int} (h : mvE L p d = 0) : layB L = true ∧ mvB (totL L) p d = true := by
  unfold mvE at h
  split at h
  · split at h
    · rename_i a b; exact ⟨a, b⟩
    · omega
  · omega
theorem mvE_yes {L : List Sg} {p d : Int} (h : layB L = true) (hm : mvB (totL L) p d = true) : mvE L p d = 0 := by
  unfold mvE; rw [if_pos h, if_pos hm]
theorem mvE_no {L : List Sg} {p d : Int} (h : layB L = true) (hm : mvB (totL L) p d = false) : mvE L p d = 2 := by
  unfold mvE; rw [if_pos h, if_neg (by rw [hm]; simp)]
/-- where the rear is; where the front comes to; how far ahead another front is -/
def rearK (T p n : Int) : Int := (p - n + 1) % T
def rearV (L : List Sg) (p n : Int) : Int := if trE L p n = 0 then rearK (totL L) p n else 0
def movV (L : List Sg) (p d : Int) : Int := if mvE L p d = 0 then (p + d) % totL L else 0
def ahead (T a b : Int) : Int := (b - a) % T
theorem mod_nn {a T : Int} (h : 0 ≤ a) (h1 : a < T) : a % T = a := Int.emod_eq_of_lt h h1
theorem mod_up {a T : Int} (h : -T ≤ a) (h1 : a < 0) : a % T = a + T := by
  rw [← Int.add_emod_right a T]; exact Int.emod_eq_of_lt (by omega) (by omega)
theorem mod_dn {a T : Int} (h : T ≤ a) (h1 : a < T + T) : a % T = a - T := by
  rw [← Int.sub_emod_right a T]; exact Int.emod_eq_of_lt (by omega) (by omega)
/-- the remainder as both reckon it -/
theorem mod_go {a T : Int} (h : -T ≤ a) (hT : 0 < T) : (a + T).tmod T = a % T := by
  rw [Int.tmod_eq_emod_of_nonneg (by omega), Int.add_emod_right]
theorem mod_go2 (a T : Int) (hT : 0 < T) : (a.tmod T + T).tmod T = a % T := by
  have f := tmod_facts a T (by omega)
  rw [Int.tmod_eq_emod_of_nonneg (by omega), Int.add_emod_right]
  have e : a = a.tmod T + T * a.tdiv T := by omega
  conv => rhs; rw [e]
  rw [Int.add_mul_emod_self_left]
theorem rear_cases {T p n : Int} (hp : 0 ≤ p ∧ p < T) (hn : 1 ≤ n ∧ n ≤ T) : (n ≤ p + 1 ∧ rearK T p n = p - n + 1) ∨ (p + 1 < n ∧ rearK T p n = p - n + 1 + T) := by
  unfold rearK
  by_cases c : n ≤ p + 1
  · exact .inl ⟨c, mod_nn (by omega) (by omega)⟩
  · exact .inr ⟨by omega, mod_up (by omega) (by omega)⟩
theorem mov_cases {T p d : Int} (hp : 0 ≤ p ∧ p < T) (hd : 0 ≤ d ∧ d ≤ T) : (p + d < T ∧ (p + d) % T = p + d) ∨ (T ≤ p + d ∧ (p + d) % T = p + d - T) := by
  by_cases c : p + d < T
  · exact .inl ⟨c, mod_nn (by omega) c⟩
  · exact .inr ⟨by omega, mod_dn (by omega) (by omega)⟩
theorem ahead_cases {T a b : Int} (ha : 0 ≤ a ∧ a < T) (hb : 0 ≤ b ∧ b < T) : (a ≤ b ∧ ahead T a b = b - a) ∨ (b < a ∧ ahead T a b = b - a + T) := by
  unfold ahead
  by_cases c : a ≤ b
  · exact .inl ⟨c, mod_nn (by omega) (by omega)⟩
  · exact .inr ⟨by omega, mod_up (by omega) (by omega)⟩
theorem rear_moves {T p n d : Int} (hp : 0 ≤ p ∧ p < T) : ((p + d) % T - n + 1) % T = (rearK T p n + d) % T := by
  unfold rearK
  rw [show (p + d) % T - n + 1 = (p + d) % T + (1 - n) by omega, Int.emod_add_emod, Int.emod_add_emod]
  congr 1; omega
/-- two trains are apart -/
def apB (T a b n : Int) : Bool := decide (n ≤ ahead T a b) && decide (n ≤ T - ahead T a b)
theorem apB_sym {T a b n : Int} (ha : 0 ≤ a ∧ a < T) (hb : 0 ≤ b ∧ b < T) (hn : 1 ≤ n) : apB T a b n = apB T b a n := by
  have h1 := ahead_cases ha hb
  have h2 := ahead_cases hb ha
  unfold apB
  rcases h1 with ⟨c, e⟩ | ⟨c, e⟩ <;> rcases h2 with ⟨c2, e2⟩ | ⟨c2, e2⟩ <;> rw [e, e2, Bool.eq_iff_iff] <;> simp <;> omega
def gapE (L : List Sg) (a b n : Int) : Int := if trE L a n = 0 then (if trE L b n = 0 then (if apB (totL L) a b n = true then 0 else 5) else trE L b n) else trE L a n
def gapV (L : List Sg) (a b n : Int) : Int := if gapE L a b n = 0 then ahead (totL L) a b - n else 0
theorem gapE_ok {L : List Sg} {a b n : Int} (h : gapE L a b n = 0) : trE L a n = 0 ∧ trE L b n = 0 ∧ apB (totL L) a b n = true := by
  unfold gapE at h
  split at h
  · split at h
    · split at h
      · exact ⟨by assumption, by assumption, by assumption⟩
      · omega
    · rename_i a b; exact absurd h b
  · rename_i b; exact absurd h b
/-- the first k trains are apart from one another -/
def sepK (T n : Int) (F : List Int) (k : Nat) : Bool := (List.range k).all fun i => (List.range i).all fun j => apB T (gx F i) (gx F j) n
def sepJ (T n : Int) (F : List Int) (i k : Nat) : Bool := (List.range k).all fun j => apB T (gx F i) (gx F j) n
theorem sepK_0 (T n : Int) (F : List Int) : sepK T n F 0 = true := by simp [sepK]
theorem sepJ_0 (T n : Int) (F : List Int) (i : Nat) : sepJ T n F i 0 = true := by simp [sepJ]
theorem sepK_succ (T n : Int) (F : List Int) (k : Nat) : sepK T n F (k + 1) = (sepK T n F k && sepJ T n F k k) := by
  unfold sepK sepJ; rw [List.range_succ, List.all_append]; simp
theorem sepJ_succ (T n : Int) (F : List Int) (i k : Nat) : sepJ T n F i (k + 1) = (sepJ T n F i k && apB T (gx F i) (gx F k) n) := by
  unfold sepJ; rw [List.range_succ, List.all_append]; simp
theorem sepK_no {T n : Int} {F : List Int} {m i j : Nat} (hi : i < m) (hj : j < i) (h : apB T (gx F i) (gx F j) n = false) : sepK T n F m = false := by
  rw [Bool.eq_false_iff]; intro g
  unfold sepK at g
  rw [List.all_eq_true] at g
  have := g i (List.mem_range.2 hi)
  rw [List.all_eq_true] at this
  have := this j (List.mem_range.2 hj)
  rw [h] at this; cases this
def sepB (L : List Sg) (F : List Int) (n : Int) : Bool := layB L && decide (F.length ≤ 4) && trsB (totL L) n F && sepK (totL L) n F F.length
theorem allP_at {T : Int} {F : List Int} (h : allP T F = true) (k : Nat) (hk : k < F.length) : 0 ≤ gx F k ∧ gx F k < T := by
  unfold allP at h
  rw [List.all_eq_true] at h
  exact (isP_iff _ _).1 (h _ (gx_mem F k hk))
theorem allP_no {T : Int} {F : List Int} {k : Nat} (hk : k < F.length) (h : isP T (gx F k) = false) : allP T F = false := by
  rw [Bool.eq_false_iff]; intro g
  have := allP_at g k hk
  rw [← isP_iff, h] at this; cases this
theorem allP_of {T : Int} {F : List Int} (h : ∀ k, k < F.length → isP T (gx F k) = true) : allP T F = true := by
  unfold allP
  rw [List.all_eq_true]
  intro x hx
  obtain ⟨k, hk, rfl⟩ := List.mem_iff_getElem.1 hx
  rw [← gx_of F k hk]; exact h k hk
/-- sensors -/
def senB (L : List Sg) (S : List Int) : Bool := layB L && decide (S.length ≤ 32) && risB S (totL L)
theorem senB_iff (L : List Sg) (S : List Int) : senB L S = true ↔ layB L = true ∧ S.length ≤ 32 ∧ risB S (totL L) = true := by
  unfold senB; simp [and_assoc]
theorem senB_no (L : List Sg) (S : List Int) : senB L S = false ↔ ¬ (layB L = true ∧ S.length ≤ 32 ∧ risB S (totL L) = true) := by
  rw [← senB_iff]; simp
/-- the indices of the elements that lie from a to b -/
def onI (S : List Int) (a b : Int) (k : Nat) : List Int := ((List.range k).filter fun i => decide (a ≤ gx S i) && decide (gx S i ≤ b)).map (fun (i : Nat) => (i : Int))
theorem onI_0 (S : List Int) (a b : Int) : onI S a b 0 = [] := by simp [onI]
theorem onI_succ (S : List Int) (a b : Int) (k : Nat) : onI S a b (k + 1) = if a ≤ gx S k ∧ gx S k ≤ b then onI S a b k ++ [(k : Int)] else onI S a b k := by
  unfold onI; rw [List.range_succ, List.filter_append, List.map_append]
  by_cases h1 : a ≤ gx S k <;> by_cases h2 : gx S k ≤ b <;> simp [h1, h2]
theorem onI_len (S : List Int) (a b : Int) (k : Nat) : (onI S a b k).length ≤ k := by
  unfold onI; rw [List.length_map]
  exact Nat.le_trans (List.length_filter_le _ _) (by simp)
theorem onI_mem (S : List Int) (a b : Int) (k : Nat) : ∀ x ∈ onI S a b k, 0 ≤ x ∧ x < k := by
  intro x hx
  unfold onI at hx
  rw [List.mem_map] at hx
  obtain ⟨i, hi, rfl⟩ := hx
  have := List.mem_range.1 (List.mem_filter.1 hi).1
  omega
/-- the code and the list of the sensors that are covered -/
def cvE (L : List Sg) (S : List Int) (p n : Int) : Int := if senB L S = true then trE L p n else 1
def cvK (T : Int) (S : List Int) (p n : Int) (k : Nat) : List Int := ((List.range k).filter fun i => decide ((p - gx S i) % T < n)).map (fun (i : Nat) => (i : Int))
def cvV (L : List Sg) (S : List Int) (p n : Int) : List Int := if cvE L S p n = 0 then cvK (totL L) S p n S.length else []
theorem cvK_0 (T : Int) (S : List Int) (p n : Int) : cvK T S p n 0 = [] := by simp [cvK]
theorem cvK_succ (T : Int) (S : List Int) (p n : Int) (k : Nat) : cvK T S p n (k + 1) = if (p - gx S k) % T < n then cvK T S p n k ++ [(k : Int)] else cvK T S p n k := by
  unfold cvK; rw [List.range_succ, List.filter_append, List.map_append]
  by_cases h1 : (p - gx S k) % T < n <;> simp [h1]
theorem cvK_len (T : Int) (S : List Int) (p n : Int) (k : Nat) : (cvK T S p n k).length ≤ k := by
  unfold cvK; rw [List.length_map]
  exact Nat.le_trans (List.length_filter_le _ _) (by simp)
theorem cvK_mem (T : Int) (S : List Int) (p n : Int) (k : Nat) : ∀ x ∈ cvK T S p n k, 0 ≤ x ∧ x < k := by
  intro x hx
  unfold cvK at hx
  rw [List.mem_map] at hx
  obtain ⟨i, hi, rfl⟩ := hx
  have := List.mem_range.1 (List.mem_filter.1 hi).1
  omega
/-- rising lists grow -/
theorem ris_le {S : List Int} {m : Int} (h : risB S m = true) (i j : Nat) (hij : i < j) (hj : j < S.length) : gx S i < gx S j := by
  induction j with
  | zero => omega
  | succ j ih =>
    have := (ris_at h (j + 1) hj).2.2 (by omega)
    rw [Nat.add_sub_cancel] at this
    by_cases e : i = j
    · rw [e]; exact this
    · have := ih (by omega) (by omega); omega
/-- what is low comes first -/
theorem low_first (P Q : Nat → Bool) (n : Nat) (h : ∀ i j, i < n → j < n → P i = true → Q j = true → i < j) : (List.range n).filter P ++ (List.range n).filter Q = (List.range n).filter fun i => P i || Q i := by
  induction n with
  | zero => simp
  | succ n ih =>
    have ih := ih (fun i j hi hj => h i j (by omega) (by omega))
    rw [List.range_succ, List.filter_append, List.filter_append, List.filter_append, ← ih]
    by_cases hp : P n = true
    · have e : (List.range n).filter Q = [] := by
        rw [List.filter_eq_nil_iff]
        intro j hj hq
        have := h n j (by omega) (by have := List.mem_range.1 hj; omega) hp hq
        have := List.mem_range.1 hj; omega
      have e2 : Q n = false := by
        rw [Bool.eq_false_iff]; intro hq
        have := h n n (by omega) (by omega) hp hq; omega
      rw [e]; simp [hp, e2]
    · have hp : P n = false := by simpa using hp
      have e : List.filter (fun i => P i || Q i) [n] = List.filter Q [n] := by simp [List.filter_cons, hp]
      simp [hp, e]
/-- the sensors of both parts of a train -/
theorem cv_parts {T : Int} {S : List Int} {p n : Int} (hr : risB S T = true) (hp : 0 ≤ p ∧ p < T) (hn : 1 ≤ n ∧ n ≤ T) :
    onI S 0 (rearK T p n + n - 1 - T) S.length ++ onI S (rearK T p n) (min (rearK T p n + n - 1) (T - 1)) S.length = cvK T S p n S.length := by
  have hc := rear_cases hp hn
  unfold onI cvK
  rw [← List.map_append, low_first]
  · congr 1
    apply List.filter_congr
    intro i hi
    obtain ⟨s0, s1, _⟩ := ris_at hr i (List.mem_range.1 hi)
    have hb := ahead_cases (T := T) (a := gx S i) (b := p) ⟨s0, s1⟩ hp
    unfold ahead at hb
    rw [Bool.eq_iff_iff]
    simp only [Bool.or_eq_true, Bool.and_eq_true, decide_eq_true_eq]
    rcases hc with ⟨c, e⟩ | ⟨c, e⟩ <;> rcases hb with ⟨c2, e2⟩ | ⟨c2, e2⟩ <;> rw [e, e2] <;> omega
  · intro i j hi hj h1 h2
    simp only [Bool.and_eq_true, decide_eq_true_eq] at h1 h2
    by_cases c : i < j
    · exact c
    · have : gx S j ≤ gx S i := by
        by_cases e : i = j
        · rw [e]; exact Int.le_refl _
        · have := ris_le hr j i (by omega) hi; omega
      rcases hc with ⟨c, e⟩ | ⟨c, e⟩ <;> rw [e] at h1 h2 <;> omega
/-- the sensors that a front comes to -/
def psE (L : List Sg) (S : List Int) (p d : Int) : Int := if senB L S = true then mvE L p d else 1
def psK (T : Int) (S : List Int) (p d : Int) : List Int := onI S (p + 1) (min (p + d) (T - 1)) S.length ++ onI S 0 (p + d - T) S.length
def psV (L : List Sg) (S : List Int) (p d : Int) : List Int := if psE L S p d = 0 then psK (totL L) S p d else []
theorem cvE_ok {L : List Sg} {S : List Int} {p n : Int} (h : cvE L S p n = 0) : senB L S = true ∧ trE L p n = 0 := by
  unfold cvE at h; split at h
  · exact ⟨by assumption, h⟩
  · omega
theorem psE_ok {L : List Sg} {S : List Int} {p n : Int} (h : psE L S p n = 0) : senB L S = true ∧ mvE L p n = 0 := by
  unfold psE at h; split at h
  · exact ⟨by assumption, h⟩
  · omega
/-- how many sensors lie at a front or behind it -/
def fstS (S : List Int) (p : Int) : Nat → Nat
  | 0 => 0
  | k + 1 => if gx S k ≤ p then k + 1 else fstS S p k
/-- the sensor that is met as number k -/
def rotI (f n k : Nat) : Nat := (f + k) % n
/-- how far it is to sensor i -/
def dstS (T p s : Int) : Int := if (s - p) % T = 0 then T else (s - p) % T
/-- what is met by the first k -/
def metK (T : Int) (S : List Int) (p d : Int) (f k : Nat) : List Int := ((List.range k).filter fun j => decide (dstS T p (gx S (rotI f S.length j)) ≤ d)).map fun (j : Nat) => ((rotI f S.length j : Nat) : Int)
theorem metK_0 (T : Int) (S : List Int) (p d : Int) (f : Nat) : metK T S p d f 0 = [] := by simp [metK]
theorem metK_succ (T : Int) (S : List Int) (p d : Int) (f k : Nat) : metK T S p d f (k + 1) = if dstS T p (gx S (rotI f S.length k)) ≤ d then metK T S p d f k ++ [((rotI f S.length k : Nat) : Int)] else metK T S p d f k := by
  unfold metK; rw [List.range_succ, List.filter_append, List.map_append]
  by_cases h1 : dstS T p (gx S (rotI f S.length k)) ≤ d <;> simp [h1]
theorem metK_len (T : Int) (S : List Int) (p d : Int) (f k : Nat) : (metK T S p d f k).length ≤ k := by
  unfold metK; rw [List.length_map]
  exact Nat.le_trans (List.length_filter_le _ _) (by simp)
theorem metK_mem (T : Int) (S : List Int) (p d : Int) (f k : Nat) (h0 : 0 < S.length) : ∀ x ∈ metK T S p d f k, 0 ≤ x ∧ x < S.length := by
  intro x hx
  unfold metK at hx
  rw [List.mem_map] at hx
  obtain ⟨i, hi, rfl⟩ := hx
  have : rotI f S.length i < S.length := Nat.mod_lt _ h0
  omega
/-- the cut: the first f lie at the front or behind it, the others ahead -/
def IsCut (S : List Int) (p : Int) (f : Nat) : Prop := f ≤ S.length ∧ (∀ i, i < f → gx S i ≤ p) ∧ (∀ i, f ≤ i → i < S.length → p < gx S i)
theorem isCut_of {S : List Int} {T p : Int} (hr : risB S T = true) {f : Nat} (hf : f ≤ S.length) (h1 : ∀ i, i < f → gx S i ≤ p) (h2 : f < S.length → p < gx S f) : IsCut S p f := by
  refine ⟨hf, h1, fun i hi hl => ?_⟩
  by_cases e : i = f
  · rw [e]; exact h2 (by omega)
  · have := ris_le hr f i (by omega) hl
    have := h2 (by omega); omega
theorem filter_shift (P : Nat → Bool) (f n : Nat) (hf : f ≤ n) (h : ∀ i, i < f → P i = false) : (List.range n).filter P = ((List.range (n - f)).map (f + ·)).filter P := by
  conv => lhs; rw [show n = f + (n - f) by omega, List.range_add, List.filter_append]
  have e : (List.range f).filter P = [] := by
    rw [List.filter_eq_nil_iff]
    intro j hj
    rw [h j (List.mem_range.1 hj)]; simp
  rw [e, List.nil_append]
theorem filter_cut (P : Nat → Bool) (f n : Nat) (hf : f ≤ n) (h : ∀ i, f ≤ i → i < n → P i = false) : (List.range n).filter P = (List.range f).filter P := by
  rw [show n = f + (n - f) by omega, List.range_add, List.filter_append]
  have e : ((List.range (n - f)).map (f + ·)).filter P = [] := by
    rw [List.filter_eq_nil_iff]
    intro j hj
    rw [List.mem_map] at hj
    obtain ⟨i, hi, rfl⟩ := hj
    have := List.mem_range.1 hi
    rw [h (f + i) (by omega) (by omega)]; simp
  rw [e, List.append_nil]
theorem rot_lo {f n k : Nat} (h : f + k < n) : rotI f n k = f + k := Nat.mod_eq_of_lt h
theorem rot_hi {f n k : Nat} (h : n ≤ f + k) (h2 : f + k < n + n) : rotI f n k = f + k - n := by
  unfold rotI; rw [Nat.mod_eq_sub_mod h, Nat.mod_eq_of_lt (by omega)]
theorem met_all {T : Int} {S : List Int} {p d : Int} {f : Nat} (hr : risB S T = true) (hp : 0 ≤ p ∧ p < T) (hd : 0 ≤ d ∧ d ≤ T) (hc : IsCut S p f) :
    metK T S p d f S.length = psK T S p d := by
  obtain ⟨hf, h1, h2⟩ := hc
  have rng : ∀ i, i < S.length → 0 ≤ gx S i ∧ gx S i < T := fun i hi => ⟨(ris_at hr i hi).1, (ris_at hr i hi).2.1⟩
  have dst : ∀ i, i < S.length → dstS T p (gx S i) = if p < gx S i then gx S i - p else gx S i - p + T := by
    intro i hi
    have := rng i hi
    unfold dstS
    have ha := ahead_cases (T := T) (a := p) (b := gx S i) hp this
    unfold ahead at ha
    rcases ha with ⟨c, e⟩ | ⟨c, e⟩ <;> rw [e] <;> split <;> split <;> omega
  unfold psK onI
  rw [filter_shift (fun i => decide (p + 1 ≤ gx S i) && decide (gx S i ≤ min (p + d) (T - 1))) f S.length hf (by intro i hi; have := h1 i hi; simp; omega),
    filter_cut (fun i => decide (0 ≤ gx S i) && decide (gx S i ≤ p + d - T)) f S.length hf (by intro i hi hl; have := h2 i hi hl; have := rng i hl; simp; omega)]
  unfold metK
  conv => lhs; rw [show List.range S.length = List.range ((S.length - f) + f) by congr 1; omega, List.range_add, List.filter_append, List.map_append]
  congr 1
  · rw [List.filter_map, List.map_map, List.map_congr_left (g := fun j => ((f + j : Nat) : Int))]
    · rw [List.filter_congr (q := (fun i => decide (p + 1 ≤ gx S i) && decide (gx S i ≤ min (p + d) (T - 1))) ∘ (f + ·))]
      · rfl
      · intro j hj
        have hj := List.mem_range.1 hj
        have e : rotI f S.length j = f + j := rot_lo (by omega)
        rw [e, dst (f + j) (by omega), if_pos (h2 (f + j) (by omega) (by omega))]
        have := h2 (f + j) (by omega) (by omega)
        have := rng (f + j) (by omega)
        rw [Bool.eq_iff_iff]; simp; omega
    · intro j hj
      have hj := List.mem_range.1 (List.mem_filter.1 hj).1
      simp only [rot_lo (f := f) (n := S.length) (k := j) (by omega)]
  · rw [List.filter_map, List.map_map, List.map_congr_left (g := fun j => ((j : Nat) : Int))]
    · rw [List.filter_congr (q := fun i => decide (0 ≤ gx S i) && decide (gx S i ≤ p + d - T))]
      intro j hj
      have hj := List.mem_range.1 hj
      have e : rotI f S.length (S.length - f + j) = j := by rw [rot_hi (by omega) (by omega)]; omega
      simp only [Function.comp]
      rw [e, dst j (by omega), if_neg (by have := h1 j hj; omega)]
      have := rng j (by omega)
      rw [Bool.eq_iff_iff]; simp; omega
    · intro j hj
      have hj := List.mem_range.1 (List.mem_filter.1 hj).1
      have e : rotI f S.length (S.length - f + j) = j := by rw [rot_hi (by omega) (by omega)]; omega
      simp only [Function.comp, e]
end Go.Proofs.Ytdhoiiejcmnmbaa
namespace Go.Proofs.Ytdhoiiejcmnmbaa
open Go.RowKit
set_option maxHeartbeats 4000000
set_option linter.unusedVariables false
set_option linter.unusedSimpArgs false
theorem tot_sm {L : List Sg} {n : Nat} (hl : L.length = n) (h26 : n ≤ 26) (hsm : ∀ x ∈ L, SmW x) : -273000000 ≤ totL L ∧ totL L ≤ 273000000 := by
  have t := upL_sm L hsm L.length (Nat.le_refl _)
  unfold totL; rw [hl] at t ⊢; omega
end Go.Proofs.Ytdhoiiejcmnmbaa
namespace Go.Proofs.Ytdhoiiejcmnmbaa
open Go.RowKit
set_option maxHeartbeats 4000000
set_option linter.unusedVariables false
set_option linter.unusedSimpArgs false
theorem drawn_mono {w : World} {B : Nat} {a : Option Addr} {len cap : Nat} {P Q : Int → Prop} (h : ∀ r, P r → Q r) {e : Ending} {w' : World} (k : Drawn w B a len cap P e w') : Drawn w B a len cap Q e w' := by
  obtain ⟨r, h1, h2, h3⟩ := k; exact ⟨r, h1, h r h2, h3⟩
/-- a drawn layout and two numbers -/
def DrawnL2 (w : World) (e : Ending) (w' : World) : Prop :=
  ∃ (a' : Option Addr) (n cap' : Nat) (L : List Sg) (p q : Int), e = .returned (.tuple #[.agg #[.slice a' n cap'], .int .i64 p, .int .i64 q]) ∧ Sgs w' a' n L ∧ n ≤ cap' ∧ InR p ∧ InR q ∧ Below w.heap.size w w'
end Go.Proofs.Ytdhoiiejcmnmbaa
namespace Go.Proofs.Ytdhoiiejcmnmbaa
open Go.RowKit
set_option maxHeartbeats 2000000
set_option linter.unusedVariables false
set_option linter.unusedSimpArgs false
theorem sl_lat {w w' : World} {a : Option Addr} {n : Nat} {l : List Int} (h : Sl w a n l) (hb : Later w w') : Sl w' a n l := sl_later h hb
/-- a slice of one, of two elements, as a call lays it -/
theorem sl_one (w : World) (T : TypeId) (p : Int) (hp : InR p) : Sl (w.alloc (.cells #[.int .i64 p] T)) (some ⟨w.heap.size, 0, none⟩) 1 [p] := by
  refine ⟨rfl, by omega, fun k hk => ⟨_, 0, rfl, ?_⟩, fun x hx => by simp at hx; rw [hx]; exact hp⟩
  obtain rfl : k = 0 := by omega
  rw [Nat.zero_add, cell_of_row _ _ 0 _ T (0, 0) (heap_alloc_new w _)]; rfl
theorem sl_two (w : World) (T : TypeId) (p q : Int) (hp : InR p) (hq : InR q) : Sl (w.alloc (.cells #[.int .i64 p, .int .i64 q] T)) (some ⟨w.heap.size, 0, none⟩) 2 [p, q] := by
  refine ⟨rfl, by omega, fun k hk => ⟨_, 0, rfl, ?_⟩, fun x hx => by simp at hx; rcases hx with rfl | rfl <;> assumption⟩
  have : k = 0 ∨ k = 1 := by omega
  rcases this with rfl | rfl
  · rw [Nat.zero_add, cell_of_row _ _ 0 _ T (0, 0) (heap_alloc_new w _)]; rfl
  · rw [Nat.zero_add, cell_of_row _ _ 1 _ T (0, 0) (heap_alloc_new w _)]; rfl
theorem mod_rng (n T : Int) (hT : 0 < T) : 0 ≤ n % T ∧ n % T < T := ⟨Int.emod_nonneg n (by omega), Int.emod_lt_of_pos n hT⟩
theorem ret_iv2 {a b c d a' b' c' d' : Int} (h1 : a = a') (h2 : b = b') (h3 : c = c') (h4 : d = d') : Ending.returned (.tuple #[.agg #[.int .i64 a, .int .i64 b], .agg #[.int .i64 c, .int .i64 d]]) = .returned (.tuple #[.agg #[.int .i64 a', .int .i64 b'], .agg #[.int .i64 c', .int .i64 d']]) := by rw [h1, h2, h3, h4]
end Go.Proofs.Ytdhoiiejcmnmbaa
namespace Go.Proofs.Ytdhoiiejcmnmbaa
open Go.RowKit
set_option maxHeartbeats 2000000
set_option linter.unusedVariables false
set_option linter.unusedSimpArgs false
def cdE (L : List Sg) (p n lo hi : Int) : Int := if layB L = true then (if (0 ≤ p ∧ p < totL L) ∧ lo ≤ n ∧ n ≤ hi ∧ n ≤ totL L then 0 else 2) else 1
theorem cd_tr (L : List Sg) (p n : Int) : cdE L p n 1 40000 = trE L p n := by
  unfold cdE trE
  rw [trsB_one]
  by_cases hv : layB L = true
  · rw [if_pos hv, if_pos hv]
    by_cases h : (0 ≤ p ∧ p < totL L) ∧ 1 ≤ n ∧ n ≤ 40000 ∧ n ≤ totL L
    · rw [if_pos h, if_pos (by rw [Bool.and_eq_true, isN_iff, isP_iff]; omega)]
    · rw [if_neg h, if_neg (by rw [Bool.and_eq_true, isN_iff, isP_iff]; omega)]
  · rw [if_neg hv, if_neg hv]
theorem cd_mv (L : List Sg) (p n : Int) : cdE L p n 0 1000000000000 = mvE L p n := by
  unfold cdE mvE
  by_cases hv : layB L = true
  · have := tot_bd hv
    rw [if_pos hv, if_pos hv]
    by_cases h : (0 ≤ p ∧ p < totL L) ∧ 0 ≤ n ∧ n ≤ 1000000000000 ∧ n ≤ totL L
    · rw [if_pos h, if_pos (by rw [mvB_iff]; omega)]
    · rw [if_neg h, if_neg (by rw [mvB_iff]; omega)]
  · rw [if_neg hv, if_neg hv]
end Go.Proofs.Ytdhoiiejcmnmbaa
namespace Go.Proofs.Ytdhoiiejcmnmbaa
open Go.RowKit
set_option maxHeartbeats 4000000
set_option linter.unusedVariables false
set_option linter.unusedSimpArgs false
theorem Src.kept3 {w w' : World} {B N : Nat} {a : Option Addr} {len cap : Nat} {row : Option Nat} (h : Src w B a len cap) (hab : 0 < len → ∀ x, a = some x → x.block < N) (hBN : B < N) (hg : w.grownBy w' row) (hr : ∀ k, row = some k → N ≤ k) : Src w' B a len cap := by
  have hlt := h.lt
  obtain ⟨⟨p, s, h1, h2, h3, hb⟩, hc⟩ := h
  refine ⟨⟨p, s, h1, h2, h3, by rw [← hb]; exact hg.block B hlt (fun e => by have := hr B e.symm; omega)⟩, hc.1, fun k hk => ?_⟩
  obtain ⟨b, off, x, rfl, hne, hx, x0, x1⟩ := hc.2 k hk
  exact ⟨b, off, x, rfl, hne, hg.cell hx (fun e => by have := hr b e.symm; have := hab (by omega) ⟨b, off, none⟩ rfl; simp at this; omega), x0, x1⟩
/-- a world that grew beside a block of the call's own -/
theorem St.own {l : List (Nat × Nat × Value)} {B : Nat} {a : Option Addr} {len cap : Nat} {w0 W W1 : World} {row : Option Nat} (h : St l B a len cap w0 W) (hg : W.grownBy W1 row) (hr : ∀ k, row = some k → w0.heap.size ≤ k ∧ ∀ x ∈ l, x.1 ≠ k) : St l B a len cap w0 W1 := by
  have hB := h.lt
  refine ⟨fun x hx => ?_, h.2.1, h.src.kept3 (N := w0.heap.size) h.2.1.low hB hg (fun k e => (hr k e).1), ⟨hg.os.trans h.grown.os, hg.tape.trans h.grown.tape, hg.output.trans h.grown.output, Nat.le_trans h.grown.size hg.size, fun i hi hne => (hg.block i (Nat.lt_of_lt_of_le hi h.grown.size) (fun e => by have := (hr i e.symm).1; omega)).trans (h.grown.block i hi hne)⟩⟩
  obtain ⟨h1, h2, h3, h4⟩ := h.1 x hx
  have hne : some x.1 ≠ row := fun e => (hr x.1 e.symm).2 x hx rfl
  exact ⟨h1, Nat.lt_of_lt_of_le h2 hg.size, hg.cell h3 (by simpa using hne), by rw [World.frozen?_of_block (w := W) (hg.block x.1 h2 (by simpa using hne))]; exact h4⟩
theorem wr_rng (x : Int) : -9223372036854775808 ≤ IntKind.i64.wrap x ∧ IntKind.i64.wrap x ≤ 9223372036854775807 := by
  simp [IntKind.wrap, IntKind.signed, IntKind.bits, wrap64]
  omega
/-- what hands back a drawn list leaves -/
def DrawnOL (w : World) (B : Nat) (a : Option Addr) (len cap : Nat) (e : Ending) (w' : World) : Prop :=
  ∃ v l, e = .returned v ∧ Own w' w.heap.size v l ∧ l.length ≤ 1000 ∧ Src w' B a len cap ∧ w.grownBy w' (some B)
end Go.Proofs.Ytdhoiiejcmnmbaa
namespace Go.Proofs.Ytdhoiiejcmnmbaa
open Go.RowKit
set_option maxHeartbeats 4000000
set_option linter.unusedVariables false
set_option linter.unusedSimpArgs false
end Go.Proofs.Ytdhoiiejcmnmbaa
namespace Go.Proofs.Ytdhoiiejcmnmbaa
open Go.RowKit
set_option maxHeartbeats 4000000
set_option linter.unusedVariables false
set_option linter.unusedSimpArgs false
/-- a drawn layout and three numbers -/
def DrawnL3 (w : World) (e : Ending) (w' : World) : Prop :=
  ∃ (a' : Option Addr) (n cap' : Nat) (L : List Sg) (p r q : Int), e = .returned (.tuple #[.agg #[.slice a' n cap'], .int .i64 p, .int .i64 r, .int .i64 q]) ∧ Sgs w' a' n L ∧ n ≤ cap' ∧ InR p ∧ InR r ∧ InR q ∧ Below w.heap.size w w'
/-- a drawn layout, a list, a number -/
def DrawnLF (w : World) (e : Ending) (w' : World) : Prop :=
  ∃ (a' : Option Addr) (n cap' : Nat) (L : List Sg) (A : Option Addr) (m capF : Nat) (F : List Int) (q : Int), e = .returned (.tuple #[.agg #[.slice a' n cap'], .slice A m capF, .int .i64 q]) ∧ Sgs w' a' n L ∧ n ≤ cap' ∧ Sl w' A m F ∧ m ≤ capF ∧ m ≤ 1000 ∧ InR q ∧ Below w.heap.size w w'
theorem Own.rows {w : World} {base : Nat} {v : Value} {l : List Int} (h : Own w base v l) : ∃ A cap, v = .slice A l.length cap ∧ Sl w A l.length l ∧ l.length ≤ cap ∧ ∀ x, A = some x → base ≤ x.block := by
  obtain ⟨A, cap, e, hs, hb⟩ := h.sl
  refine ⟨A, cap, e, hs, ?_, hb⟩
  subst e
  rcases h.1.2 with ⟨e, h0⟩ | ⟨g, cap2, cur, e, _, _, h1, h2, _⟩
  · simp only [Value.slice.injEq] at e; omega
  · simp only [Value.slice.injEq] at e; omega
theorem Sl.far {w : World} {A : Option Addr} {n : Nat} {l : List Int} (h : Sl w A n l) (g j : Nat) (u : Value) (hne : ∀ x, A = some x → x.block ≠ g) : Sl (w.setCell ⟨g, j, none⟩ u) A n l := by
  obtain ⟨h1, h2, h3, h4⟩ := h
  refine ⟨h1, h2, fun k hk => ?_, h4⟩
  obtain ⟨b, off, rfl, hc⟩ := h3 k hk
  exact ⟨b, off, rfl, by rw [World.cell?_setCell_far _ _ _ _ (Ne.symm (hne _ rfl))]; exact hc⟩
end Go.Proofs.Ytdhoiiejcmnmbaa
namespace Go.Proofs.Ytdhoiiejcmnmbaa
open Go.RowKit
set_option maxHeartbeats 2000000
set_option linter.unusedVariables false
set_option linter.unusedSimpArgs false
theorem trs_two {L : List Sg} (hv : layB L = true) (x y q : Int) : (trsB (totL L) q [x, y] = false → gapE L x y q = 2) ∧ (trsB (totL L) q [x, y] = true → gapE L x y q = if apB (totL L) x y q = true then 0 else 5) := by
  unfold gapE trE
  rw [if_pos hv, if_pos hv, trsB_one, trsB_one, trsB_two]
  cases isN (totL L) q <;> cases isP (totL L) x <;> cases isP (totL L) y <;> simp
end Go.Proofs.Ytdhoiiejcmnmbaa
namespace Go.Proofs.Ytdhoiiejcmnmbaa
open Go.RowKit
set_option maxHeartbeats 2000000
set_option linter.unusedVariables false
set_option linter.unusedSimpArgs false
/-- the length of the track beside sensors, or a code -/
def tsV (L : List Sg) (S : List Int) : Int := if senB L S = true then totL L else 0
def tsE (L : List Sg) (S : List Int) : Int := if senB L S = true then 0 else 1
/-- what hands back a list of its own leaves -/
def Gives (w : World) (l : List Int) (e : Ending) (w' : World) : Prop := ∃ v, e = .returned v ∧ Own w' w.heap.size v l ∧ Later w w'
end Go.Proofs.Ytdhoiiejcmnmbaa
namespace Go.Proofs.Ytdhoiiejcmnmbaa
open Go.RowKit
set_option maxHeartbeats 2000000
set_option linter.unusedVariables false
set_option linter.unusedSimpArgs false
theorem later_gO {w w' : World} (h : Later w w') (row : Option Nat) : w.grownBy w' row := ⟨h.os, h.tape, h.output, h.size, fun k hk _ => h.block k hk⟩
theorem Own.lat {w w' : World} {base : Nat} {v : Value} {l : List Int} (h : Own w base v l) (k : Later w w') : Own w' base v l := h.kept (later_gO k none) (fun _ e => by cases e)
/-- what hands back a list of its own and a code leaves -/
def GivesC (w : World) (l : List Int) (c : Int) (e : Ending) (w' : World) : Prop := ∃ v, e = .returned (.tuple #[v, .int .i64 c]) ∧ Own w' w.heap.size v l ∧ Later w w'
/-- a slice value that reads as a list -/
def Rd (w : World) (v : Value) (l : List Int) : Prop := ∃ a cap, v = .slice a l.length cap ∧ Sl w a l.length l ∧ (a = none → cap = 0)
theorem Rd.later {w w' : World} {v : Value} {l : List Int} (h : Rd w v l) (k : Later w w') : Rd w' v l := by
  obtain ⟨a, cap, e, hs, h0⟩ := h
  exact ⟨a, cap, e, sl_lat hs k, h0⟩
theorem Own.rd {w : World} {base : Nat} {v : Value} {l : List Int} (h : Own w base v l) : Rd w v l := by
  obtain ⟨h1, h2⟩ := h
  have h0 := h1
  rcases h1.2 with ⟨rfl, h3⟩ | ⟨g, cap, cur, rfl, hb, hg, hnc, hcm, _⟩
  · exact ⟨none, 0, by rw [h3], ⟨rfl, by omega, fun k hk => by omega, h2⟩, fun _ => rfl⟩
  · unfold maxLen at hcm
    exact ⟨some ⟨g, 0, none⟩, cap, rfl, sl_of_row h0 rfl (by omega) h2, fun e => by cases e⟩
end Go.Proofs.Ytdhoiiejcmnmbaa
namespace Go.Proofs.Ytdhoiiejcmnmbaa
open Go.RowKit
set_option maxHeartbeats 4000000
set_option linter.unusedVariables false
set_option linter.unusedSimpArgs false
/-- a drawn layout, a list, two numbers -/
def DrawnLS (w : World) (e : Ending) (w' : World) : Prop :=
  ∃ (a' : Option Addr) (n cap' : Nat) (L : List Sg) (A : Option Addr) (m capF : Nat) (F : List Int) (p q : Int), e = .returned (.tuple #[.agg #[.slice a' n cap'], .slice A m capF, .int .i64 p, .int .i64 q]) ∧ Sgs w' a' n L ∧ n ≤ cap' ∧ Sl w' A m F ∧ m ≤ capF ∧ m ≤ 1000 ∧ InR p ∧ InR q ∧ Below w.heap.size w w'
theorem Sl.keptB {w w' : World} {A : Option Addr} {n B : Nat} {l : List Int} (h : Sl w A n l) (gr : w.grownBy w' (some B)) (hne : ∀ x, A = some x → x.block ≠ B) : Sl w' A n l := by
  obtain ⟨h1, h2, h3, h4⟩ := h
  refine ⟨h1, h2, fun k hk => ?_, h4⟩
  obtain ⟨b, off, rfl, hc⟩ := h3 k hk
  exact ⟨b, off, rfl, gr.cell hc (by have := hne _ rfl; simpa using this)⟩
theorem dl_le {l : List (Nat × Nat × Value)} {g : Nat} {a' : Option Addr} {n : Nat} {L : List Sg} {B : Nat} {a : Option Addr} {len cap : Nat} {w0 W W1 : World} {r : Option Nat} (h : DL l g a' n L B a len cap w0 W) (gr : W.grownBy W1 r) : w0.heap.size ≤ W.heap.size := h.1.le
end Go.Proofs.Ytdhoiiejcmnmbaa
namespace Go.Proofs.Ytdhoiiejcmnmbaa
open Go.RowKit
set_option maxHeartbeats 4000000
set_option linter.unusedVariables false
set_option linter.unusedSimpArgs false
theorem Sl.lat2 {w w' w3 : World} {A : Option Addr} {n B : Nat} {l : List Int} (h : Sl w A n l) (k : Later w w') (gr : w'.grownBy w3 (some B)) (hne : ∀ x, A = some x → x.block ≠ B) : Sl w3 A n l := (sl_lat h k).keptB gr hne
/-- a layout, blocks and a number, drawn by a function that the source is handed to -/
def DrawnBkN (w : World) (B : Nat) (a : Option Addr) (len cap : Nat) (e : Ending) (w' : World) : Prop :=
  ∃ (a' : Option Addr) (n cap' : Nat) (L : List Sg) (A : Option Addr) (m capF : Nat) (F : List Int) (q : Int), e = .returned (.tuple #[.agg #[.slice a' n cap'], .slice A m capF, .int .i64 q]) ∧ Sgs w' a' n L ∧ n ≤ cap' ∧ (∀ x, a' = some x → 0 < n → w.heap.size ≤ x.block) ∧ Sl w' A m F ∧ m ≤ capF ∧ m ≤ 10 ∧ (∀ x, A = some x → w.heap.size ≤ x.block) ∧ InR q ∧ w.grownBy w' (some B)
set_option maxRecDepth 100000 in
theorem s_l04DrawBlock (B : Nat) (a : Option Addr) (len cap : Nat) (w : World) (hs : Src w B a len cap) :
    Calls Try.prog 92 #[.pointer (some ⟨B, 0, none⟩)] w (DrawnBkN w B a len cap) := by
  have HS := Lib.hid hs
  have hB := hs.lt
  clear hs
  go_enter Try.func92, Try.ntmps92
  go_wp2_with fail
  have S1 : Hid (Src (w.alloc (.cells #[.slice none 0 0] 47)) B a len cap) := Lib.hid (HS.out.alloc _)
  refine (s_l04Draw B a len cap _ S1.out).mono ?_
  rintro e w2 ⟨a', n, cap', L, A, m, capF, F, rfl, hl, hcap, h26, hsm, hbl, hsl, hcF, hm, hbA, src, gr⟩
  rw [World.size_alloc] at hbl hbA
  obtain ⟨w1, hw1⟩ : ∃ w1, w.alloc (.cells #[.slice none 0 0] 47) = w1 := ⟨_, rfl⟩
  have hz1 : w1.heap.size = w.heap.size + 1 := by rw [← hw1, World.size_alloc]
  have RC : Hid (w1.cell? ⟨w.heap.size, 0, none⟩ = some (.slice none 0 0)) := Lib.hid (by rw [← hw1]; simp)
  have RF : Hid (w1.frozen? ⟨w.heap.size, 0, none⟩ = false) := Lib.hid (by rw [← hw1]; simp)
  have G1 : Hid (w.grownBy w1 (some B)) := Lib.hid (by rw [← hw1]; exact World.grownBy_alloc w _ _)
  rw [hw1] at S1 gr
  have D2 : Hid (DL [] w.heap.size a' n L B a len cap w1 w2) := Lib.hid ⟨(St.begin S1.out).call src gr, hl, fun x hx hn => ⟨by have := hbl x hx hn; omega, by have := hbl x hx hn; omega⟩⟩
  have SM := Lib.hid hsm
  have O2 := Lib.hid hsl
  have HA : Hid (∀ x, A = some x → x.block ≠ w.heap.size) := Lib.hid (fun x hx => by have h9 := hbA x hx; omega)
  have HB : Hid (∀ x, A = some x → x.block ≠ B) := Lib.hid (fun x hx => by have h9 := hbA x hx; omega)
  have HL1 : Hid (∀ x, a' = some x → 0 < n → w.heap.size ≤ x.block) := Lib.hid (fun x hx hn => by have := hbl x hx hn; omega)
  have HA1 : Hid (∀ x, A = some x → w.heap.size ≤ x.block) := Lib.hid (fun x hx => by have := hbA x hx; omega)
  have hz2 := gr.size
  have hn1 : w2.heap.size ≠ w.heap.size := by omega
  have hn2 : w.heap.size ≠ w2.heap.size := by omega
  have D3 := Lib.hid (D2.out.box (.slice a' n cap') 47)
  have O3 := Lib.hid (sl_lat O2.out ((Later.refl w2).alloc (.cells #[.slice a' n cap'] 47)))
  have hm' : (m : Int) ≤ 10 := by omega
  clear hl hbl src gr hsm S1 D2 hsl hbA O2 hw1
  go_wp2_with fail
  refine (s_Next B a len cap 16 _ D3.out.src (by omega) (by omega)).mono ?_
  rintro e w3 ⟨c, rfl, x0, x1, x2, src, gr⟩
  have O4 := Lib.hid (O3.out.keptB gr HB.out)
  have D4 := Lib.hid (D3.out.call src gr); have c4 := D4.out.c1; have rc4 := D4.out.old RC.out (by omega); have rf4 := D4.out.oldF RC.out RF.out (by omega)
  have hz3 := D4.out.1.le
  clear src gr x1 x2

  by_cases k0 : c = 0
  · subst k0
    go_wp2_with fail
    go_region_held3 (fun w' => w'.cell? ⟨w2.heap.size, 0, none⟩ = some (.slice a' n cap')) (first | (refine DL.c1 (l := []) (g := w.heap.size) (a' := a') (n := n) (L := L) (B := B) (a := a) (len := len) (cap := cap) (w0 := w1) ?_; ((repeat (first | (with_reducible exact Hid.out (by assumption)) | (with_reducible refine DL.alloc ?_ _) | (with_reducible refine DL.drewN ?_ _) | (with_reducible refine DL.drew ?_) | (with_reducible refine DL.later ?_ (Hid.out (by assumption))))); done)) | (rw [World.cell?_setCell_other _ _ _ _ (by simp [hn1, hn2])]; refine DL.c1 (l := []) (g := w.heap.size) (a' := a') (n := n) (L := L) (B := B) (a := a) (len := len) (cap := cap) (w0 := w1) ?_; ((repeat (first | (with_reducible exact Hid.out (by assumption)) | (with_reducible refine DL.alloc ?_ _) | (with_reducible refine DL.drewN ?_ _) | (with_reducible refine DL.drew ?_) | (with_reducible refine DL.later ?_ (Hid.out (by assumption))))); done)))
      ((go_at_call 61; refine (s_Pick B a len cap _ 2 2 [-1, (m : Int)] _ (show DL [(w2.heap.size, 0, .slice a' n cap')] w.heap.size a' n L B a len cap w1 _ from (by repeat (first | (with_reducible exact Hid.out (by assumption)) | (with_reducible refine DL.alloc ?_ _) | (with_reducible refine DL.drewN ?_ _) | (with_reducible refine DL.drew ?_) | (with_reducible refine DL.later ?_ (Hid.out (by assumption)))))).src (by first | exact sl_new _ [-1, (m : Int)] 2 (by simp) (by intro x hx; simp at hx; unfold InR; omega) | exact sl_lat (sl_new _ [-1, (m : Int)] 2 (by simp) (by intro x hx; simp at hx; unfold InR; omega)) ((Later.refl _).drew) | exact sl_lat (sl_new _ [-1, (m : Int)] 2 (by simp) (by intro x hx; simp at hx; unfold InR; omega)) ((Later.refl _).drewN _)) (by simp; omega) (by omega)).mono ?_; rintro e w5 ⟨q, rfl, hq, src, gr⟩; have Hq : Hid (InR q) := Lib.hid (by simp at hq; unfold InR; omega); have O5 := Lib.hid (Sl.lat2 O4.out (show Later w3 _ from (by repeat (first | (with_reducible exact Later.refl _) | (with_reducible exact Hid.out (by assumption)) | (with_reducible refine Later.alloc ?_ _) | (with_reducible refine Later.setCell ?_ (by simp; omega) _) | (with_reducible refine Later.setCell ?_ (by simp) _) | (with_reducible refine Later.drewN ?_ _) | (with_reducible refine Later.drew ?_) | (with_reducible refine Later.trans ?_ (Hid.out (by assumption)))))) gr HB.out); have D5 := Lib.hid (DL.call (show DL [(w2.heap.size, 0, .slice a' n cap')] w.heap.size a' n L B a len cap w1 _ from (by repeat (first | (with_reducible exact Hid.out (by assumption)) | (with_reducible refine DL.alloc ?_ _) | (with_reducible refine DL.drewN ?_ _) | (with_reducible refine DL.drew ?_) | (with_reducible refine DL.later ?_ (Hid.out (by assumption)))))) src gr); have rc5 := D5.out.old RC.out (by omega); have rf5 := D5.out.oldF RC.out RF.out (by omega); clear src gr hq))
    all_goals
      go_wp2_with fail
      refine bodyPost_ret (v := .tuple #[.agg #[.slice a' n cap'], .slice A m capF, .int .i64 q]) (by simp [results, Try.results92, go_sem, *]) rfl ⟨a', n, cap', L, A, m, capF, F, q, rfl, D5.out.set _ _, hcap, HL1.out, O5.out.far _ _ _ HA.out, hcF, hm, HA1.out, Hq.out, grown_set_new (grown_trans G1.out D5.out.1.grown) (p := ⟨w.heap.size, 0, none⟩) (Nat.le_refl _) _⟩
  · have e0 : (c == 0) = false := by simpa using k0
    clear k0
    go_wp2_with fail
    go_region_held3 (fun w' => w'.cell? ⟨w2.heap.size, 0, none⟩ = some (.slice a' n cap')) (first | (refine DL.c1 (l := []) (g := w.heap.size) (a' := a') (n := n) (L := L) (B := B) (a := a) (len := len) (cap := cap) (w0 := w1) ?_; ((repeat (first | (with_reducible exact Hid.out (by assumption)) | (with_reducible refine DL.alloc ?_ _) | (with_reducible refine DL.drewN ?_ _) | (with_reducible refine DL.drew ?_) | (with_reducible refine DL.later ?_ (Hid.out (by assumption))))); done)) | (rw [World.cell?_setCell_other _ _ _ _ (by simp [hn1, hn2])]; refine DL.c1 (l := []) (g := w.heap.size) (a' := a') (n := n) (L := L) (B := B) (a := a) (len := len) (cap := cap) (w0 := w1) ?_; ((repeat (first | (with_reducible exact Hid.out (by assumption)) | (with_reducible refine DL.alloc ?_ _) | (with_reducible refine DL.drewN ?_ _) | (with_reducible refine DL.drew ?_) | (with_reducible refine DL.later ?_ (Hid.out (by assumption))))); done)))
      ((go_at_call 58; refine (s_Next B a len cap m _ (show DL [(w2.heap.size, 0, .slice a' n cap')] w.heap.size a' n L B a len cap w1 _ from (by repeat (first | (with_reducible exact Hid.out (by assumption)) | (with_reducible refine DL.alloc ?_ _) | (with_reducible refine DL.drewN ?_ _) | (with_reducible refine DL.drew ?_) | (with_reducible refine DL.later ?_ (Hid.out (by assumption)))))).src (by omega) (by omega)).mono ?_; rintro e w5 ⟨q, rfl, q0, q1, q2, src, gr⟩; have Hq : Hid (InR q) := Lib.hid ⟨by omega, by by_cases h : (1 : Int) < m; (have := q1 h; omega); (have := q2 (by omega); omega)⟩; have O5 := Lib.hid (Sl.lat2 O4.out (show Later w3 _ from (by repeat (first | (with_reducible exact Later.refl _) | (with_reducible exact Hid.out (by assumption)) | (with_reducible refine Later.alloc ?_ _) | (with_reducible refine Later.setCell ?_ (by simp; omega) _) | (with_reducible refine Later.setCell ?_ (by simp) _) | (with_reducible refine Later.drewN ?_ _) | (with_reducible refine Later.drew ?_) | (with_reducible refine Later.trans ?_ (Hid.out (by assumption)))))) gr HB.out); have D5 := Lib.hid (DL.call (show DL [(w2.heap.size, 0, .slice a' n cap')] w.heap.size a' n L B a len cap w1 _ from (by repeat (first | (with_reducible exact Hid.out (by assumption)) | (with_reducible refine DL.alloc ?_ _) | (with_reducible refine DL.drewN ?_ _) | (with_reducible refine DL.drew ?_) | (with_reducible refine DL.later ?_ (Hid.out (by assumption)))))) src gr); have rc5 := D5.out.old RC.out (by omega); have rf5 := D5.out.oldF RC.out RF.out (by omega); clear src gr q0 q1 q2))
    all_goals
      go_wp2_with fail
      refine bodyPost_ret (v := .tuple #[.agg #[.slice a' n cap'], .slice A m capF, .int .i64 q]) (by simp [results, Try.results92, go_sem, *]) rfl ⟨a', n, cap', L, A, m, capF, F, q, rfl, D5.out.set _ _, hcap, HL1.out, O5.out.far _ _ _ HA.out, hcF, hm, HA1.out, Hq.out, grown_set_new (grown_trans G1.out D5.out.1.grown) (p := ⟨w.heap.size, 0, none⟩) (Nat.le_refl _) _⟩
end Go.Proofs.Ytdhoiiejcmnmbaa
namespace Go.Proofs.Ytdhoiiejcmnmbaa
set_option linter.unusedSimpArgs false
set_option linter.unusedVariables false
/-- 'the interval from a to b is an energy' -/
def enB (a b : Int) : Bool := decide (0 ≤ a) && decide (a ≤ b) && decide (b ≤ 10000000000)
theorem enB_iff (a b : Int) : enB a b = true ↔ 0 ≤ a ∧ a ≤ b ∧ b ≤ 10000000000 := by
  unfold enB; simp [and_assoc]
theorem enB_no (a b : Int) : enB a b = false ↔ ¬ (0 ≤ a ∧ a ≤ b ∧ b ≤ 10000000000) := by
  rw [← enB_iff]; simp
/-- twice what the resistance takes over a segment, at its least and at its greatest -/
def kL (x : Sg) : Int := x.a * (2 * x.l)
def kH (x : Sg) : Int := x.b * (2 * x.l)
/-- the bounds of the change of a segment -/
def chL (x : Sg) : Int := -19612 * x.r - kH x
def chH (x : Sg) : Int := -19612 * x.r - kL x
theorem k_bd (x : Sg) (h : sgB x = true) : 0 ≤ kL x ∧ kL x ≤ kH x ∧ kH x ≤ 8000000000 := by
  rw [sgB_iff] at h
  obtain ⟨_, ⟨l1, l2⟩, _, ⟨a1, a2, a3⟩, _⟩ := h
  refine ⟨Int.mul_nonneg a1 (by omega), Int.mul_le_mul_of_nonneg_right a2 (by omega), ?_⟩
  have h1 : x.b * (2 * x.l) ≤ 20000 * (2 * x.l) := Int.mul_le_mul_of_nonneg_right a3 (by omega)
  unfold kH
  omega
theorem ch_bd (x : Sg) (h : sgB x = true) : -9961200000 ≤ chL x ∧ chL x ≤ chH x ∧ chH x ≤ 1961200000 := by
  have hk := k_bd x h
  rw [sgB_iff] at h
  unfold chL chH
  omega
/-- the code of an energy behind a segment -/
def codE (a b : Int) : Int := if a < 0 then 5 else if b ≤ 10000000000 then 0 else 3
/-- a number that is 0 unless the code is 0 -/
def okV (c v : Int) : Int := if c = 0 then v else 0
theorem codE_ok (a b : Int) (h : codE a b = 0) : 0 ≤ a ∧ b ≤ 10000000000 := by
  unfold codE at h; split at h
  · cases h
  · split at h
    · omega
    · cases h
/-- the energy and the code of a speed -/
def spE (v : Int) : Int := if 0 ≤ v ∧ v ≤ 100000 then 0 else 2
def spV (v : Int) : Int := if 0 ≤ v ∧ v ≤ 100000 then v * v else 0
/-- the code where all must be valid -/
def inE (b : Bool) : Int := if b then 0 else 1
/-- the speeds of an energy -/
def sdL (a b : Int) : Int := if enB a b = true then rootD a else 0
def sdH (a b : Int) : Int := if enB a b = true then rootU b else 0
/-- the change of a segment, if it is valid -/
def coL (x : Sg) : Int := if sgB x = true then chL x else 0
def coH (x : Sg) : Int := if sgB x = true then chH x else 0
/-- the verdict on a sum -/
def vrd (a b : Int) : Int := if 0 ≤ a then 2 else if b < 0 then 0 else 1
/-- the verdict on a train before a segment -/
def pvE (x : Sg) (a b : Int) : Int := inE (sgB x && enB a b)
def pvV (x : Sg) (a b : Int) : Int := if (sgB x && enB a b) = true then vrd (a + chL x) (b + chH x) else 0
/-- the energy behind a segment -/
def afE (x : Sg) (a b : Int) : Int := if (sgB x && enB a b) = true then codE (a + chL x) (b + chH x) else 1
def afL (x : Sg) (a b : Int) : Int := okV (afE x a b) (a + chL x)
def afH (x : Sg) (a b : Int) : Int := okV (afE x a b) (b + chH x)
end Go.Proofs.Ytdhoiiejcmnmbaa
namespace Go.Proofs.Ytdhoiiejcmnmbaa
set_option linter.unusedSimpArgs false
set_option linter.unusedVariables false
/-- a brake or a station -/
def brk (k : Int) : Bool := decide (k = 3) || decide (k = 4)
theorem brk_iff (k : Int) : brk k = true ↔ k = 3 ∨ k = 4 := by unfold brk; simp
theorem brk_no (k : Int) : brk k = false ↔ k ≠ 3 ∧ k ≠ 4 := by unfold brk; simp
/-- the bounds of the work of a brake -/
def fcL (x : Sg) : Int := x.c * (2 * x.l)
def fcH (x : Sg) : Int := x.d * (2 * x.l)
def wkL (x : Sg) : Int := fcL x - chH x
def wkH (x : Sg) : Int := fcH x - chL x
theorem fc_bd (x : Sg) (h : sgB x = true) : 0 ≤ x.c ∧ x.c ≤ x.d ∧ x.d ≤ 20000 ∧ 0 ≤ fcL x ∧ fcL x ≤ fcH x ∧ fcH x ≤ 8000000000 := by
  rw [sgB_iff] at h
  obtain ⟨_, ⟨l1, l2⟩, _, _, f1, f2⟩ := h
  have f : 0 ≤ x.c ∧ x.c ≤ x.d ∧ x.d ≤ 20000 := by
    by_cases hk : x.k = 0
    · have := f1 hk; omega
    · have := f2 hk; omega
  obtain ⟨g1, g2, g3⟩ := f
  refine ⟨g1, g2, g3, Int.mul_nonneg g1 (by omega), Int.mul_le_mul_of_nonneg_right g2 (by omega), ?_⟩
  have h1 : x.d * (2 * x.l) ≤ 20000 * (2 * x.l) := Int.mul_le_mul_of_nonneg_right g3 (by omega)
  unfold fcH
  omega
theorem wk_bd (x : Sg) (h : sgB x = true) : -1961200000 ≤ wkL x ∧ wkL x ≤ wkH x ∧ wkH x ≤ 17961200000 := by
  have h1 := fc_bd x h
  have h2 := ch_bd x h
  unfold wkL wkH
  omega
/-- the code of a brake -/
def brE (x : Sg) : Int := if sgB x = true then (if brk x.k = true then 0 else 5) else 1
def bwL (x : Sg) : Int := okV (brE x) (wkL x)
def bwH (x : Sg) : Int := okV (brE x) (wkH x)
theorem brE_ok {x : Sg} (h : brE x = 0) : sgB x = true ∧ brk x.k = true := by
  unfold brE at h
  split at h
  · split at h
    · exact ⟨by assumption, by assumption⟩
    · cases h
  · cases h
/-- the code of a brake that slows -/
def slE (x : Sg) : Int := if brE x = 0 then (if 1 ≤ wkL x then 0 else 5) else brE x
def slL (x : Sg) : Int := okV (slE x) (wkL x)
def slH (x : Sg) : Int := okV (slE x) (wkH x)
theorem slE_ok {x : Sg} (h : slE x = 0) : sgB x = true ∧ brk x.k = true ∧ 1 ≤ wkL x := by
  unfold slE at h
  split at h
  · split at h
    · rename_i h1 h2
      exact ⟨(brE_ok h1).1, (brE_ok h1).2, h2⟩
    · cases h
  · contradiction
/-- the stopping distances -/
def dsE (x : Sg) (a b : Int) : Int := if enB a b = true then slE x else 1
def dsL (x : Sg) (a b : Int) : Int := okV (dsE x a b) (flo (a * x.l) (wkH x))
def dsH (x : Sg) (a b : Int) : Int := okV (dsE x a b) (cei (b * x.l) (wkL x))
/-- the verdict on a stop -/
def svE (x : Sg) (a b : Int) : Int := if enB a b = true then brE x else 1
def svW (x : Sg) (a b : Int) : Int := if 1 ≤ wkL x ∧ b ≤ wkL x then 2 else if wkH x < a then 0 else 1
def svV (x : Sg) (a b : Int) : Int := okV (svE x a b) (svW x a b)
/-- the greatest energy with which a train stops -/
def gsV (x : Sg) : Int := okV (slE x) (min (wkL x) 10000000000)
/-! quotients of numbers that are not negative -/
theorem flo_nn (a b : Int) (ha : 0 ≤ a) (hb : 0 < b) : flo a b = a.tdiv b := by
  unfold flo
  rw [if_neg]
  omega
theorem quo_one (b q1 q2 r1 r2 : Int) (h : b * q1 + r1 = b * q2 + r2) (h1 : 0 ≤ r1) (h2 : r1 < b) (h3 : 0 ≤ r2) (h4 : r2 < b) : q1 = q2 := by
  have e : b * (q1 - q2) = r2 - r1 := by rw [Int.mul_sub]; omega
  rcases Int.lt_trichotomy q1 q2 with c | c | c
  · have := Int.mul_le_mul_of_nonneg_left (show q1 - q2 ≤ -1 by omega) (show 0 ≤ b by omega); omega
  · exact c
  · have := Int.mul_le_mul_of_nonneg_left (show 1 ≤ q1 - q2 by omega) (show 0 ≤ b by omega); omega
theorem cei_nn (a b : Int) (ha : 0 ≤ a) (hb : 0 < b) : cei a b = (a + b - 1).tdiv b := by
  have f := tmod_facts a b (by omega)
  have g := tmod_facts (a + b - 1) b (by omega)
  obtain ⟨f1, f2, _, f4, _⟩ := f
  obtain ⟨g1, g2, _, g4, _⟩ := g
  have f2 := f2 ha; have f4 := (f4 hb).1
  have g2 := g2 (by omega); have g4 := (g4 hb).1
  unfold cei
  by_cases h0 : a.tmod b = 0
  · rw [if_neg (by simp [h0])]
    refine quo_one b _ _ (b - 1) _ ?_ (by omega) (by omega) g2 g4
    omega
  · rw [if_pos ⟨h0, by omega⟩]
    refine quo_one b _ _ (a.tmod b - 1) _ ?_ (by omega) (by omega) g2 g4
    rw [Int.mul_add]; omega
theorem nn_mul (a l : Int) (h1 : 0 ≤ a) (h2 : a ≤ 10000000000) (h3 : 1 ≤ l) (h4 : l ≤ 200000) : 0 ≤ a * l ∧ a * l ≤ 2000000000000000 := by
  refine ⟨Int.mul_nonneg h1 (by omega), ?_⟩
  have := Int.mul_le_mul h2 h4 (by omega) (by omega : (0 : Int) ≤ 10000000000)
  omega
end Go.Proofs.Ytdhoiiejcmnmbaa
namespace Go.Proofs.Ytdhoiiejcmnmbaa
set_option linter.unusedSimpArgs false
set_option linter.unusedVariables false
/-- the segments of a run, counted around the circuit -/
def runS (L : List Sg) (f c : Nat) : List Sg := (List.range c).map fun i => sx L ((f + i) % L.length)
theorem runS_len (L : List Sg) (f c : Nat) : (runS L f c).length = c := by simp [runS]
theorem runS_0 (L : List Sg) (f : Nat) : runS L f 0 = [] := by simp [runS]
theorem runS_succ (L : List Sg) (f c : Nat) : runS L f (c + 1) = runS L f c ++ [sx L ((f + c) % L.length)] := by
  unfold runS; rw [List.range_succ, List.map_append]; rfl
theorem runS_at (L : List Sg) (f c i : Nat) (h : i < c) : sx (runS L f c) i = sx L ((f + i) % L.length) := by
  rw [sx_of _ _ (by rw [runS_len]; exact h)]; simp [runS]
theorem runS_okB (L : List Sg) (f c : Nat) (h : okB L L.length = true) (hn : 0 < L.length) : okB (runS L f c) (runS L f c).length = true := by
  unfold okB
  rw [List.take_length, List.all_eq_true]
  intro x hx
  obtain ⟨i, _, rfl⟩ := List.mem_map.1 hx
  exact okB_at L L.length _ (Nat.le_refl _) (Nat.mod_lt _ hn) h
/-- the code of a run -/
def sgE (L : List Sg) (f c : Int) : Int := if layB L = true then (if 0 ≤ f ∧ f < (L.length : Int) ∧ 0 ≤ c ∧ c ≤ 24 then 0 else 2) else 1
theorem sgE_ok {L : List Sg} {f c : Int} (h : sgE L f c = 0) : layB L = true ∧ ∃ f' c' : Nat, f = (f' : Int) ∧ c = (c' : Int) ∧ f' < L.length ∧ c' ≤ 24 := by
  unfold sgE at h
  split at h
  · split at h
    · rename_i h1 h2
      exact ⟨h1, f.toNat, c.toNat, by omega, by omega, by omega, by omega⟩
    · cases h
  · cases h
/-- the segments of a run, none if it has an error -/
def sgV (L : List Sg) (f c : Int) : List Sg := if sgE L f c = 0 then runS L f.toNat c.toNat else []
/-- the sums of the changes of the first k segments -/
def clL (R : List Sg) (k : Nat) : Int := ((R.take k).map chL).sum
def clH (R : List Sg) (k : Nat) : Int := ((R.take k).map chH).sum
theorem clL_0 (R : List Sg) : clL R 0 = 0 := by simp [clL]
theorem clH_0 (R : List Sg) : clH R 0 = 0 := by simp [clH]
theorem clL_succ (R : List Sg) (k : Nat) (h : k < R.length) : clL R (k + 1) = clL R k + chL (sx R k) := by
  unfold clL; rw [List.take_succ_eq_append_getElem h, List.map_append, List.sum_append, sx_of R k h]; simp
theorem clH_succ (R : List Sg) (k : Nat) (h : k < R.length) : clH R (k + 1) = clH R k + chH (sx R k) := by
  unfold clH; rw [List.take_succ_eq_append_getElem h, List.map_append, List.sum_append, sx_of R k h]; simp
theorem cl_bd (R : List Sg) (h : okB R R.length = true) (k : Nat) (hk : k ≤ R.length) : -9961200000 * (k : Int) ≤ clL R k ∧ clL R k ≤ clH R k ∧ clH R k ≤ 1961200000 * (k : Int) := by
  induction k with
  | zero => simp [clL_0, clH_0]
  | succ k ih =>
    have h1 := ch_bd (sx R k) (okB_at R R.length k (Nat.le_refl _) (by omega) h)
    have h2 := ih (by omega)
    rw [clL_succ R k (by omega), clH_succ R k (by omega)]
    omega
/-- the first of the codes f 0 .. f (n - 1) that is not 0 -/
def fstB (f : Nat → Int) : Nat → Int
  | 0 => 0
  | n + 1 => if fstB f n = 0 then f n else fstB f n
theorem fstB_succ (f : Nat → Int) (n : Nat) (h : fstB f n = 0) : fstB f (n + 1) = f n := by simp [fstB, h]
theorem fstB_stop (f : Nat → Int) (n k : Nat) (h : fstB f k = 0) (hk : k < n) (hc : f k ≠ 0) : fstB f n = f k := by
  obtain ⟨m, rfl⟩ : ∃ m, n = k + 1 + m := ⟨n - (k + 1), by omega⟩
  clear hk
  induction m with
  | zero => exact fstB_succ f k h
  | succ m ih =>
    show fstB f (k + 1 + m + 1) = f k
    unfold fstB
    rw [ih, if_neg hc]
theorem fstB_zero (f : Nat → Int) (n : Nat) : fstB f n = 0 ↔ ∀ k, k < n → f k = 0 := by
  induction n with
  | zero => simp [fstB]
  | succ n ih =>
    unfold fstB
    by_cases h : fstB f n = 0
    · rw [if_pos h]
      constructor
      · intro hn k hk
        by_cases e : k = n
        · rw [e]; exact hn
        · exact ih.1 h k (by omega)
      · intro hk; exact hk n (by omega)
    · rw [if_neg h]
      constructor
      · intro hn; exact absurd hn h
      · intro hk; exact ih.2 (fun k hkn => hk k (by omega))
theorem fstB_congr (f g : Nat → Int) (n : Nat) (h : ∀ k, k < n → f k = g k) : fstB f n = fstB g n := by
  induction n with
  | zero => rfl
  | succ n ih =>
    unfold fstB
    rw [ih (fun k hk => h k (by omega)), h n (by omega)]
/-- the code of the energy behind segment k of a run -/
def cdK (R : List Sg) (a b : Int) (k : Nat) : Int := codE (a + clL R (k + 1)) (b + clH R (k + 1))
/-- the code of the energies along a run -/
def alE (R : List Sg) (a b : Int) (k : Nat) : Int := fstB (cdK R a b) k
/-- the energies behind the first k segments, their bounds one behind the other -/
def flF (R : List Sg) (a b : Int) (k : Nat) : List Int := (List.range k).flatMap fun j => [a + clL R (j + 1), b + clH R (j + 1)]
theorem flF_0 (R : List Sg) (a b : Int) : flF R a b 0 = [] := rfl
theorem flF_succ (R : List Sg) (a b : Int) (k : Nat) : flF R a b (k + 1) = flF R a b k ++ [a + clL R (k + 1), b + clH R (k + 1)] := by
  unfold flF; rw [List.range_succ, List.flatMap_append]; simp
theorem flF_len (R : List Sg) (a b : Int) (k : Nat) : (flF R a b k).length = k * 2 := by
  induction k with
  | zero => rfl
  | succ k ih => rw [flF_succ, List.length_append, ih]; simp; omega
/-- the energies along a run: code, their number, their bounds -/
def eaE (L : List Sg) (f c a b : Int) : Int := if enB a b = true then (if sgE L f c = 0 then alE (runS L f.toNat c.toNat) a b c.toNat else sgE L f c) else 1
def eaN (L : List Sg) (f c a b : Int) : Nat := if eaE L f c a b = 0 then c.toNat else 0
def eaV (L : List Sg) (f c a b : Int) : List Int := if eaE L f c a b = 0 then flF (runS L f.toNat c.toNat) a b c.toNat else []
/-- the least energy with which a train surely passes the first k segments of a run -/
def ndN (R : List Sg) : Nat → Int
  | 0 => 0
  | k + 1 => max (ndN R k) (-clL R (k + 1))
theorem ndN_0 (R : List Sg) : ndN R 0 = 0 := rfl
theorem ndN_succ (R : List Sg) (k : Nat) : ndN R (k + 1) = max (ndN R k) (-clL R (k + 1)) := rfl
theorem ndN_bd (R : List Sg) (h : okB R R.length = true) (k : Nat) (hk : k ≤ R.length) : 0 ≤ ndN R k ∧ ndN R k ≤ 9961200000 * (k : Int) := by
  induction k with
  | zero => simp [ndN_0]
  | succ k ih =>
    have h1 := cl_bd R h (k + 1) hk
    have h2 := ih (by omega)
    rw [ndN_succ]
    omega
theorem ndN_ge (R : List Sg) (k j : Nat) (hj : j < k) : -clL R (j + 1) ≤ ndN R k := by
  induction k with
  | zero => omega
  | succ k ih =>
    rw [ndN_succ]
    by_cases e : j = k
    · subst e; omega
    · have := ih (by omega); omega
theorem ndN_is (R : List Sg) (k : Nat) : ndN R k = 0 ∨ ∃ j, j < k ∧ ndN R k = -clL R (j + 1) := by
  induction k with
  | zero => exact .inl rfl
  | succ k ih =>
    rw [ndN_succ]
    by_cases e : ndN R k ≤ -clL R (k + 1)
    · exact .inr ⟨k, by omega, by omega⟩
    · rcases ih with h | ⟨j, hj, h⟩
      · exact .inl (by omega)
      · exact .inr ⟨j, by omega, by omega⟩
/-- the energy that is needed and its code -/
def enE (L : List Sg) (f c : Int) : Int := if sgE L f c = 0 then (if ndN (runS L f.toNat c.toNat) c.toNat ≤ 10000000000 then 0 else 3) else sgE L f c
def enV (L : List Sg) (f c : Int) : Int := if enE L f c = 0 then ndN (runS L f.toNat c.toNat) c.toNat else 0
end Go.Proofs.Ytdhoiiejcmnmbaa
namespace Go.Proofs.Ytdhoiiejcmnmbaa
set_option linter.unusedSimpArgs false
set_option linter.unusedVariables false
/-- the holding segment of block b, the number of segments ahead of it, and these -/
def hoK (L : List Sg) (F : List Int) (b : Nat) : Nat := endK L F b - 1
def cnK (L : List Sg) (F : List Int) (b : Nat) : Nat := hoK L F b - fstK F b
def hoS (L : List Sg) (F : List Int) (b : Nat) : Sg := sx L (hoK L F b)
def rnK (L : List Sg) (F : List Int) (b : Nat) : List Sg := runS L (fstK F b) (cnK L F b)
/-- the greatest energy with which no limit is exceeded behind the first k segments of a run -/
def hgK (R : List Sg) : Nat → Int
  | 0 => 10000000000
  | k + 1 => min (hgK R k) (10000000000 - clH R (k + 1))
theorem hgK_0 (R : List Sg) : hgK R 0 = 10000000000 := rfl
theorem hgK_succ (R : List Sg) (k : Nat) : hgK R (k + 1) = min (hgK R k) (10000000000 - clH R (k + 1)) := rfl
theorem hgK_le (R : List Sg) (k : Nat) : hgK R k ≤ 10000000000 := by
  induction k with
  | zero => simp [hgK_0]
  | succ k ih => rw [hgK_succ]; omega
theorem hgK_at (R : List Sg) (k j : Nat) (hj : j < k) : hgK R k ≤ 10000000000 - clH R (j + 1) := by
  induction k with
  | zero => omega
  | succ k ih =>
    rw [hgK_succ]
    by_cases e : j = k
    · subst e; omega
    · have := ih (by omega); omega
theorem hgK_end (R : List Sg) (k : Nat) : hgK R k ≤ 10000000000 - clH R k := by
  cases k with
  | zero => simp [hgK_0, clH_0]
  | succ k => exact hgK_at R (k + 1) k (by omega)
theorem hgK_ge (R : List Sg) (h : okB R R.length = true) (k : Nat) (hk : k ≤ R.length) : 10000000000 - 1961200000 * (k : Int) ≤ hgK R k := by
  induction k with
  | zero => simp [hgK_0]
  | succ k ih =>
    have h1 := cl_bd R h (k + 1) hk
    have h2 := ih (by omega)
    rw [hgK_succ]
    omega
theorem ndN_end (R : List Sg) (k : Nat) : -clL R k ≤ ndN R k := by
  cases k with
  | zero => simp [ndN_0, clL_0]
  | succ k => exact ndN_ge R (k + 1) k (by omega)
/-- the bounds of the energy with which a train may enter block b: 'the holding segment holds it', least, greatest -/
def slowB (L : List Sg) (F : List Int) (b : Nat) : Bool := !brk (hoS L F b).k || decide (1 ≤ wkL (hoS L F b))
def loK (L : List Sg) (F : List Int) (b : Nat) : Int := ndN (rnK L F b) (cnK L F b)
def hiK (L : List Sg) (F : List Int) (b : Nat) : Int :=
  if brk (hoS L F b).k = true then min (hgK (rnK L F b) (cnK L F b)) (wkL (hoS L F b) - clH (rnK L F b) (cnK L F b)) else hgK (rnK L F b) (cnK L F b)
def okK (L : List Sg) (F : List Int) (b : Nat) : Bool := slowB L F b && decide (loK L F b ≤ hiK L F b)
/-- by the block's number: code, bounds -/
def ebE (L : List Sg) (F : List Int) (p : Int) : Int := if fndE L F (isNo p) = 0 then (if okK L F p.toNat = true then 0 else 5) else fndE L F (isNo p)
def ebL (L : List Sg) (F : List Int) (p : Int) : Int := okV (ebE L F p) (loK L F p.toNat)
def ebH (L : List Sg) (F : List Int) (p : Int) : Int := okV (ebE L F p) (hiK L F p.toNat)
/-- may a train enter: code, answer -/
def meE (L : List Sg) (F : List Int) (p a b : Int) : Int := if enB a b = true then fndE L F (isNo p) else 1
def meB (L : List Sg) (F : List Int) (p a b : Int) : Bool := decide (meE L F p a b = 0) && (okK L F p.toNat && (decide (loK L F p.toNat ≤ a) && decide (b ≤ hiK L F p.toNat)))
/-- where it stops: code, distance -/
def sbE (L : List Sg) (F : List Int) (p a b : Int) : Int := if meE L F p a b = 0 then (if meB L F p a b = true then 0 else 5) else meE L F p a b
def sbH (L : List Sg) (F : List Int) (k : Nat) (b : Int) : Int :=
  if brk (hoS L F k).k = true then cei ((b + clH (rnK L F k) (cnK L F k)) * (hoS L F k).l) (wkL (hoS L F k)) else (hoS L F k).l
def sbV (L : List Sg) (F : List Int) (p a b : Int) : Int := okV (sbE L F p a b) (upL L (hoK L F p.toNat) - upL L (fstK F p.toNat) + sbH L F p.toNat b)
/-- what is known of a block -/
structure Bl (L : List Sg) (F : List Int) (b f h c n : Nat) (y : Sg) (R : List Sg) : Prop where
  fe : f = fstK F b
  he : h = hoK L F b
  ce : c = h - f
  cn : c = cnK L F b
  le : f ≤ h
  lt : h < n
  n24 : n ≤ 24
  end' : endK L F b = h + 1
  ye : y = hoS L F b
  yok : hldB y = true
  ysg : sgB y = true
  yk : y.k = 1 ∨ y.k = 3 ∨ y.k = 4
  Re : R = rnK L F b
  Rl : R.length = c
  Rok : okB R R.length = true
  Rat : ∀ j, j < c → sx R j = sx L (f + j)
  ok : okB L L.length = true
theorem bl_of {L : List Sg} {F : List Int} {b n : Nat} (hv : layB L = true) (hk : bkC L F = true) (hb : b < F.length) (hn : L.length = n) : ∃ f h c y R, Bl L F b f h c n y R := by
  obtain ⟨g1, g2, g3⟩ := blk_bd hk b hb
  obtain ⟨v1, v2, v3, v4, v5⟩ := (layB_iff L).1 hv
  obtain ⟨k1, k2, k3, k4, k5⟩ := (bkC_iff L F).1 hk
  have hho : hoK L F b + 1 = endK L F b := by unfold hoK; omega
  have hlt : hoK L F b < L.length := by omega
  have hsg : sgB (hoS L F b) = true := okB_at L L.length _ (Nat.le_refl _) hlt v3
  have hhl : hldB (hoS L F b) = true := by
    by_cases hl : b + 1 < F.length
    · have := okH_at L F F.length (b + 1) k5 hl (by omega)
      unfold hoS hoK
      rw [endK_next b hl]
      exact this
    · have e : endK L F b = L.length := endK_last b (by omega)
      unfold hldB
      rw [hsg]
      unfold hoS hoK
      rw [e, v5]
      simp
  have hkk : (hoS L F b).k = 1 ∨ (hoS L F b).k = 3 ∨ (hoS L F b).k = 4 := by
    unfold hldB at hhl
    rw [hsg] at hhl
    simpa [or_assoc] using hhl
  refine ⟨fstK F b, hoK L F b, cnK L F b, hoS L F b, rnK L F b, rfl, rfl, rfl, rfl, by omega, by omega, by omega, by omega, rfl, hhl, hsg, hkk, rfl, ?_, ?_, ?_, v3⟩
  · unfold rnK; rw [runS_len]
  · unfold rnK; exact runS_okB L _ _ v3 (by omega)
  · intro j hj
    unfold rnK
    rw [runS_at _ _ _ _ hj]
    have : fstK F b + j < L.length := by unfold cnK at hj; omega
    rw [Nat.mod_eq_of_lt this]
end Go.Proofs.Ytdhoiiejcmnmbaa
namespace Go.Proofs.Ytdhoiiejcmnmbaa
open Go.RowKit
set_option maxHeartbeats 2000000
set_option linter.unusedVariables false
set_option linter.unusedSimpArgs false
end Go.Proofs.Ytdhoiiejcmnmbaa
namespace Go.Proofs.Ytdhoiiejcmnmbaa
open Go.RowKit
set_option maxHeartbeats 2000000
set_option linter.unusedVariables false
set_option linter.unusedSimpArgs false
theorem i_plus (a b c d : Int) (w : World) (ha : -1000000000000 ≤ a) (ha' : a ≤ 1000000000000) (hb : -1000000000000 ≤ b) (hb' : b ≤ 1000000000000) (hc : -1000000000000 ≤ c) (hc' : c ≤ 1000000000000) (hd : -1000000000000 ≤ d) (hd' : d ≤ 1000000000000) :
    Calls Try.prog 76 #[.agg #[.int .i64 a, .int .i64 b], .agg #[.int .i64 c, .int .i64 d]] w fun e w' => e = .returned (.agg #[.int .i64 (a + c), .int .i64 (b + d)]) ∧ Later w w' := by
  go_enter Try.func76, Try.ntmps76
  go_wp2
  all_goals
    refine bodyPost_ret (v := .agg #[.int .i64 (a + c), .int .i64 (b + d)]) (by simp [results, Try.results76, go_sem]) rfl ⟨rfl, ?_⟩
    exact (((Later.refl _).alloc _).alloc _).alloc _
theorem i_minus (a b c d : Int) (w : World) (ha : -1000000000000 ≤ a) (ha' : a ≤ 1000000000000) (hb : -1000000000000 ≤ b) (hb' : b ≤ 1000000000000) (hc : -1000000000000 ≤ c) (hc' : c ≤ 1000000000000) (hd : -1000000000000 ≤ d) (hd' : d ≤ 1000000000000) :
    Calls Try.prog 72 #[.agg #[.int .i64 a, .int .i64 b], .agg #[.int .i64 c, .int .i64 d]] w fun e w' => e = .returned (.agg #[.int .i64 (a - d), .int .i64 (b - c)]) ∧ Later w w' := by
  go_enter Try.func72, Try.ntmps72
  go_wp2
  all_goals
    refine bodyPost_ret (v := .agg #[.int .i64 (a - d), .int .i64 (b - c)]) (by simp [results, Try.results72, go_sem]) rfl ⟨rfl, ?_⟩
    exact (((Later.refl _).alloc _).alloc _).alloc _
theorem i_common (a b c d : Int) (w : World) (ha : -1000000000000 ≤ a) (ha' : a ≤ 1000000000000) (hb : -1000000000000 ≤ b) (hb' : b ≤ 1000000000000) (hc : -1000000000000 ≤ c) (hc' : c ≤ 1000000000000) (hd : -1000000000000 ≤ d) (hd' : d ≤ 1000000000000) :
    Calls Try.prog 118 #[.agg #[.int .i64 a, .int .i64 b], .agg #[.int .i64 c, .int .i64 d]] w fun e w' => e = .returned (.agg #[.int .i64 (max a c), .int .i64 (min b d)]) ∧ Later w w' := by
  go_enter Try.func118, Try.ntmps118
  go_wp2
  all_goals
    refine bodyPost_ret (v := .agg #[.int .i64 (max a c), .int .i64 (min b d)]) (by simp [results, Try.results118, go_sem] <;> omega) rfl ⟨rfl, ?_⟩
    exact (((Later.refl _).alloc _).alloc _).alloc _
end Go.Proofs.Ytdhoiiejcmnmbaa
namespace Go.Proofs.Ytdhoiiejcmnmbaa
open Go.RowKit
set_option maxHeartbeats 2000000
set_option linter.unusedVariables false
set_option linter.unusedSimpArgs false
/-- what becomes of a result that two valid intervals give: (x, y) with its bounds values, or an error -/
def opE (v : Bool) (x y : Int) : Int := if v then wvE x y else 1
def opL (v : Bool) (x y : Int) : Int := if v then wvL x y else 0
def opH (v : Bool) (x y : Int) : Int := if v then wvH x y else 0
end Go.Proofs.Ytdhoiiejcmnmbaa
namespace Go.Proofs.Ytdhoiiejcmnmbaa
open Go.RowKit
set_option maxHeartbeats 2000000
set_option linter.unusedVariables false
set_option linter.unusedSimpArgs false
/-- the common part: (x, y) its greatest lower and least upper bound -/
def cpE (v : Bool) (x y : Int) : Int := if v then (if y < x then 4 else 0) else 1
def cpL (v : Bool) (x y : Int) : Int := if v then (if y < x then 0 else x) else 0
def cpH (v : Bool) (x y : Int) : Int := if v then (if y < x then 0 else y) else 0
theorem op_valid {x y : Int} (h1 : -1000000000000 ≤ x) (h2 : x ≤ 1000000000000) (h3 : -1000000000000 ≤ y) (h4 : y ≤ 1000000000000) : opE true x y = 0 ∧ opL true x y = x ∧ opH true x y = y := by
  have e1 := (isVB_iff x).2 ⟨h1, h2⟩
  have e2 := (isVB_iff y).2 ⟨h3, h4⟩
  simp [opE, opL, opH, wvE, wvL, wvH, e1, e2]
/-- an interval, scaled -/
def sclB (k : Int) : Bool := decide (-1000000 ≤ k) && decide (k ≤ 1000000)
def scE (v : Bool) (a b k : Int) : Int := if v then (if sclB k then wvE (min (a * k) (b * k)) (max (a * k) (b * k)) else 2) else 1
def scL (v : Bool) (a b k : Int) : Int := if v then (if sclB k then wvL (min (a * k) (b * k)) (max (a * k) (b * k)) else 0) else 0
def scH (v : Bool) (a b k : Int) : Int := if v then (if sclB k then wvH (min (a * k) (b * k)) (max (a * k) (b * k)) else 0) else 0
theorem mulk_bd (x k : Int) (h1 : -1000000000000 ≤ x) (h2 : x ≤ 1000000000000) (h3 : -1000000 ≤ k) (h4 : k ≤ 1000000) : -1000000000000000000 ≤ x * k ∧ x * k ≤ 1000000000000000000 := by
  by_cases hk : 0 ≤ k
  · have a : x * k ≤ 1000000000000 * k := Int.mul_le_mul_of_nonneg_right h2 hk
    have b : -1000000000000 * k ≤ x * k := Int.mul_le_mul_of_nonneg_right h1 hk
    omega
  · have a : x * (-k) ≤ 1000000000000 * (-k) := Int.mul_le_mul_of_nonneg_right h2 (by omega)
    have b : -1000000000000 * (-k) ≤ x * (-k) := Int.mul_le_mul_of_nonneg_right h1 (by omega)
    have e : x * (-k) = -(x * k) := Int.mul_neg x k
    omega
/-- the order of two intervals -/
def ordV (v : Bool) (a b c d : Int) : Int := if v then (if b < c then -1 else if d < a then 1 else 0) else 0
def ordE (v : Bool) : Int := if v then 0 else 1
theorem i_times (a b k : Int) (w : World) (h1 : -1000000000000 ≤ a) (h2 : a ≤ 1000000000000) (h3 : -1000000000000 ≤ b) (h4 : b ≤ 1000000000000) (h7 : a ≤ b) (h5 : -1000000 ≤ k) (h6 : k ≤ 1000000) :
    Calls Try.prog 73 #[.agg #[.int .i64 a, .int .i64 b], .int .i64 k] w fun e w' => e = .returned (.agg #[.int .i64 (min (a * k) (b * k)), .int .i64 (max (a * k) (b * k))]) ∧ Later w w' := by
  obtain ⟨m1, m2⟩ := mulk_bd a k h1 h2 h5 h6
  obtain ⟨m3, m4⟩ := mulk_bd b k h3 h4 h5 h6
  by_cases hk : k < 0
  · have m5 : b * k ≤ a * k := Int.mul_le_mul_of_nonpos_right h7 (by omega)
    go_enter Try.func73, Try.ntmps73
    go_wp2
    refine bodyPost_ret (v := .agg #[.int .i64 (min (a * k) (b * k)), .int .i64 (max (a * k) (b * k))]) (by simp [results, Try.results73, go_sem]; omega) rfl ⟨rfl, ?_⟩
    exact (by repeat (first | exact Later.refl _ | refine Later.setCell ?_ (by simp; omega) _ | refine Later.setCell ?_ (by simp) _ | refine Later.alloc ?_ _ | refine Later.trans ?_ (Hid.out (by assumption))))
  · have m5 : a * k ≤ b * k := Int.mul_le_mul_of_nonneg_right h7 (by omega)
    have hk : 0 ≤ k := by omega
    go_enter Try.func73, Try.ntmps73
    go_wp2
    refine bodyPost_ret (v := .agg #[.int .i64 (min (a * k) (b * k)), .int .i64 (max (a * k) (b * k))]) (by simp [results, Try.results73, go_sem]; omega) rfl ⟨rfl, ?_⟩
    exact (by repeat (first | exact Later.refl _ | refine Later.setCell ?_ (by simp; omega) _ | refine Later.setCell ?_ (by simp) _ | refine Later.alloc ?_ _ | refine Later.trans ?_ (Hid.out (by assumption))))
end Go.Proofs.Ytdhoiiejcmnmbaa
namespace Go.Proofs.Ytdhoiiejcmnmbaa
open Go.RowKit
set_option maxHeartbeats 2000000
set_option linter.unusedVariables false
set_option linter.unusedSimpArgs false
theorem win_en (a b : Int) : winB (ivB a b && ivB 0 10000000000) a b 0 10000000000 = enB a b := by
  have e : ivB 0 10000000000 = true := by rw [ivB_iff]; omega
  rw [e, Bool.and_true, Bool.eq_iff_iff]
  unfold winB enB
  simp [ivB_iff]
  omega
theorem i_IsEnergy (a b : Int) (w : World) : Calls Try.prog 64 #[.agg #[.int .i64 a, .int .i64 b]] w fun e w' => e = .returned (.bool (enB a b)) ∧ Later w w' := by
  rw [← win_en]
  go_enter Try.func64, Try.ntmps64
  go_wp2_with (go_at_call 97; refine (i_IsWithin _ _ _ _ _).mono ?_; rintro e w1 ⟨rfl, hb⟩; obtain ⟨H, hcc, hff, hzz⟩ := later_facts hb; clear hb; (try simp at hzz); (try simp only [World.heap_drewN, World.cell?_drewN, World.frozen?_drewN] at hcc hff); have hz0 : w.heap.size < w1.heap.size := (by omega); (try (have hz1 : w.heap.size + 1 < w1.heap.size := (by omega))); (try (have hz2 : w.heap.size + 1 + 1 < w1.heap.size := (by omega))); (try (have hz3 : w.heap.size + 1 + 1 + 1 < w1.heap.size := (by omega))); (try (have hz4 : w.heap.size + 1 + 1 + 1 + 1 < w1.heap.size := (by omega))))
  go_ret
  exact ⟨rfl, (by repeat (first | (with_reducible exact Later.refl _) | (with_reducible exact Hid.out (by assumption)) | (with_reducible refine Later.alloc ?_ _) | (with_reducible refine Later.setCell ?_ (by simp; omega) _) | (with_reducible refine Later.setCell ?_ (by simp) _) | (with_reducible refine Later.drewN ?_ _) | (with_reducible refine Later.drew ?_) | (with_reducible refine Later.trans ?_ (Hid.out (by assumption)))))⟩
theorem i_times_nn (a b k : Int) (w : World) (h1 : 0 ≤ a) (h7 : a ≤ b) (h4 : b ≤ 1000000000000) (h5 : 0 ≤ k) (h6 : k ≤ 1000000) :
    Calls Try.prog 73 #[.agg #[.int .i64 a, .int .i64 b], .int .i64 k] w fun e w' => e = .returned (.agg #[.int .i64 (a * k), .int .i64 (b * k)]) ∧ Later w w' := by
  have h := i_times a b k w (by omega) (by omega) (by omega) h4 h7 (by omega) h6
  have m5 : a * k ≤ b * k := Int.mul_le_mul_of_nonneg_right h7 (by omega)
  rw [show min (a * k) (b * k) = a * k by omega, show max (a * k) (b * k) = b * k by omega] at h
  exact h
theorem i_coastingChange (x : Sg) (w : World) (h : sgB x = true) :
    Calls Try.prog 71 #[.agg #[.int .i64 x.k, .int .i64 x.l, .int .i64 x.r, .int .i64 x.a, .int .i64 x.b, .int .i64 x.c, .int .i64 x.d]] w fun e w' => e = .returned (.agg #[.int .i64 (chL x), .int .i64 (chH x)]) ∧ Later w w' := by
  obtain ⟨b1, b2, b3⟩ := k_bd x h
  rw [sgB_iff] at h
  obtain ⟨⟨k1, k2⟩, ⟨l1, l2⟩, ⟨r1, r2, r3, r4⟩, ⟨a1, a2, a3⟩, _⟩ := h
  clear r3 r4
  unfold chL chH
  unfold kL kH at *
  go_enter Try.func71, Try.ntmps71
  go_wp2_with (first | (go_at_call 73; refine (i_times_nn _ _ _ _ (by omega) (by omega) (by omega) (by omega) (by omega)).mono ?_; rintro e w1 ⟨rfl, hb⟩; obtain ⟨H, hcc, hff, hzz⟩ := later_facts hb; clear hb; (try simp at hzz); (try simp only [World.heap_drewN, World.cell?_drewN, World.frozen?_drewN] at hcc hff); have hz0 : w.heap.size < w1.heap.size := (by omega); (try (have hz1 : w.heap.size + 1 < w1.heap.size := (by omega))); (try (have hz2 : w.heap.size + 1 + 1 < w1.heap.size := (by omega))); (try (have hz3 : w.heap.size + 1 + 1 + 1 < w1.heap.size := (by omega))); (try (have hz4 : w.heap.size + 1 + 1 + 1 + 1 < w1.heap.size := (by omega)))) | (go_at_call 72; refine (i_minus _ _ _ _ _ (by omega) (by omega) (by omega) (by omega) (by omega) (by omega) (by omega) (by omega)).mono ?_; rintro e w1 ⟨rfl, hb⟩; obtain ⟨H, hcc, hff, hzz⟩ := later_facts hb; clear hb; (try simp at hzz); (try simp only [World.heap_drewN, World.cell?_drewN, World.frozen?_drewN] at hcc hff); have hz0 : w.heap.size < w1.heap.size := (by omega); (try (have hz1 : w.heap.size + 1 < w1.heap.size := (by omega))); (try (have hz2 : w.heap.size + 1 + 1 < w1.heap.size := (by omega))); (try (have hz3 : w.heap.size + 1 + 1 + 1 < w1.heap.size := (by omega))); (try (have hz4 : w.heap.size + 1 + 1 + 1 + 1 < w1.heap.size := (by omega)))))
  refine bodyPost_ret (v := .agg #[.int .i64 (-19612 * x.r - x.b * (2 * x.l)), .int .i64 (-19612 * x.r - x.a * (2 * x.l))]) (by simp [results, Try.results71, go_sem, *]) rfl ⟨rfl, (by repeat (first | (with_reducible exact Later.refl _) | (with_reducible exact Hid.out (by assumption)) | (with_reducible refine Later.alloc ?_ _) | (with_reducible refine Later.setCell ?_ (by simp; omega) _) | (with_reducible refine Later.setCell ?_ (by simp) _) | (with_reducible refine Later.drewN ?_ _) | (with_reducible refine Later.drew ?_) | (with_reducible refine Later.trans ?_ (Hid.out (by assumption)))))⟩
theorem i_energyBehind (a b : Int) (w : World) (h : a ≤ b) :
    Calls Try.prog 136 #[.agg #[.int .i64 a, .int .i64 b]] w fun e w' => e = .returned (.tuple #[.agg #[.int .i64 (okV (codE a b) a), .int .i64 (okV (codE a b) b)], .int .i64 (codE a b)]) ∧ Later w w' := by
  by_cases h0 : a < 0
  · have e : codE a b = 5 := by unfold codE; rw [if_pos h0]
    rw [e]
    go_enter Try.func136, Try.ntmps136
    go_wp2
    refine bodyPost_ret (v := .tuple #[.agg #[.int .i64 (okV 5 a), .int .i64 (okV 5 b)], .int .i64 5]) (by simp [results, Try.results136, go_sem, okV, *]) rfl ⟨rfl, (by repeat (first | (with_reducible exact Later.refl _) | (with_reducible exact Hid.out (by assumption)) | (with_reducible refine Later.alloc ?_ _) | (with_reducible refine Later.setCell ?_ (by simp; omega) _) | (with_reducible refine Later.setCell ?_ (by simp) _) | (with_reducible refine Later.drewN ?_ _) | (with_reducible refine Later.drew ?_) | (with_reducible refine Later.trans ?_ (Hid.out (by assumption)))))⟩
  · cases h1 : enB a b
    · have e : codE a b = 3 := by rw [enB_no] at h1; unfold codE; rw [if_neg h0, if_neg (by omega)]
      rw [e]
      go_enter Try.func136, Try.ntmps136
      go_wp2_with (go_at_call 64; refine (i_IsEnergy _ _ _).mono ?_; rintro e w1 ⟨rfl, hb⟩; obtain ⟨H, hcc, hff, hzz⟩ := later_facts hb; clear hb; (try simp at hzz); (try simp only [World.heap_drewN, World.cell?_drewN, World.frozen?_drewN] at hcc hff); have hz0 : w.heap.size < w1.heap.size := (by omega); (try (have hz1 : w.heap.size + 1 < w1.heap.size := (by omega))); (try (have hz2 : w.heap.size + 1 + 1 < w1.heap.size := (by omega))); (try (have hz3 : w.heap.size + 1 + 1 + 1 < w1.heap.size := (by omega))); (try (have hz4 : w.heap.size + 1 + 1 + 1 + 1 < w1.heap.size := (by omega))))
      refine bodyPost_ret (v := .tuple #[.agg #[.int .i64 (okV 3 a), .int .i64 (okV 3 b)], .int .i64 3]) (by simp [results, Try.results136, go_sem, okV, *]) rfl ⟨rfl, (by repeat (first | (with_reducible exact Later.refl _) | (with_reducible exact Hid.out (by assumption)) | (with_reducible refine Later.alloc ?_ _) | (with_reducible refine Later.setCell ?_ (by simp; omega) _) | (with_reducible refine Later.setCell ?_ (by simp) _) | (with_reducible refine Later.drewN ?_ _) | (with_reducible refine Later.drew ?_) | (with_reducible refine Later.trans ?_ (Hid.out (by assumption)))))⟩
    · have e : codE a b = 0 := by rw [enB_iff] at h1; unfold codE; rw [if_neg h0, if_pos (by omega)]
      rw [e]
      go_enter Try.func136, Try.ntmps136
      go_wp2_with (go_at_call 64; refine (i_IsEnergy _ _ _).mono ?_; rintro e w1 ⟨rfl, hb⟩; obtain ⟨H, hcc, hff, hzz⟩ := later_facts hb; clear hb; (try simp at hzz); (try simp only [World.heap_drewN, World.cell?_drewN, World.frozen?_drewN] at hcc hff); have hz0 : w.heap.size < w1.heap.size := (by omega); (try (have hz1 : w.heap.size + 1 < w1.heap.size := (by omega))); (try (have hz2 : w.heap.size + 1 + 1 < w1.heap.size := (by omega))); (try (have hz3 : w.heap.size + 1 + 1 + 1 < w1.heap.size := (by omega))); (try (have hz4 : w.heap.size + 1 + 1 + 1 + 1 < w1.heap.size := (by omega))))
      refine bodyPost_ret (v := .tuple #[.agg #[.int .i64 (okV 0 a), .int .i64 (okV 0 b)], .int .i64 0]) (by simp [results, Try.results136, go_sem, okV, *]) rfl ⟨rfl, (by repeat (first | (with_reducible exact Later.refl _) | (with_reducible exact Hid.out (by assumption)) | (with_reducible refine Later.alloc ?_ _) | (with_reducible refine Later.setCell ?_ (by simp; omega) _) | (with_reducible refine Later.setCell ?_ (by simp) _) | (with_reducible refine Later.drewN ?_ _) | (with_reducible refine Later.drew ?_) | (with_reducible refine Later.trans ?_ (Hid.out (by assumption)))))⟩
end Go.Proofs.Ytdhoiiejcmnmbaa
namespace Go.Proofs.Ytdhoiiejcmnmbaa
open Go.RowKit
set_option maxHeartbeats 4000000
set_option linter.unusedVariables false
set_option linter.unusedSimpArgs false
/-- a box with an interval in a slot, the world a later one than w0 -/
def Box2 (w0 : World) (L H : Int) (s : Value) (w : World) : Prop := ∃ g : Nat, s = .pointer (some ⟨g, 0, none⟩) ∧ Held [(g, 0, .int .i64 L), (g, 1, .int .i64 H)] w0 w
/-- the cells of a new block -/
def boxL (g : Nat) : Nat → List Value → List (Nat × Nat × Value)
  | _, [] => []
  | i, v :: vs => (g, i, v) :: boxL g (i + 1) vs
theorem boxL_mem (g : Nat) (vs : List Value) : ∀ i, ∀ x ∈ boxL g i vs, x.1 = g ∧ ∃ j, x.2.1 = i + j ∧ vs[j]? = some x.2.2 := by
  induction vs with
  | nil => intro i x hx; simp [boxL] at hx
  | cons v vs ih =>
    intro i x hx
    rcases List.mem_cons.1 hx with rfl | hx
    · exact ⟨rfl, 0, rfl, rfl⟩
    · obtain ⟨e, j, ej, hj⟩ := ih (i + 1) x hx
      exact ⟨e, j + 1, by omega, by simpa using hj⟩
theorem held_box {l : List (Nat × Nat × Value)} {w0 W : World} (h : Held l w0 W) (g : Nat) (vs : List Value) (T : TypeId) (hg : g = W.heap.size) : Held (boxL g 0 vs ++ l) w0 (W.alloc (.cells vs.toArray T)) := by
  subst hg
  refine ⟨fun x hx => ?_, h.2.alloc _⟩
  rcases List.mem_append.1 hx with hx | hx
  · obtain ⟨e, j, ej, hj⟩ := boxL_mem _ _ _ x hx
    have hh := heap_alloc_new W (.cells vs.toArray T)
    refine ⟨by rw [e]; simp, ?_⟩
    rw [e, show x.2.1 = j by omega]
    simp only [World.cell?, hh]; simp [hj]
  · exact (h.alloc _).1 x hx
theorem held_start (w : World) : Held [] w w := ⟨fun x hx => by simp at hx, Later.refl _⟩
theorem held_two {w0 W w' : World} {g : Nat} {u v : Value} (h : Later w0 W) (k : Later W w') (hu : w'.cell? ⟨g, 0, none⟩ = some u) (hv : w'.cell? ⟨g, 1, none⟩ = some v) (hg : g < w'.heap.size) : Held [(g, 0, u), (g, 1, v)] w0 w' :=
  held_more (held_more ⟨fun x hx => by simp at hx, h.trans k⟩ g 1 v hv hg) g 0 u hu hg
theorem i_PassVerdict (x : Sg) (a b : Int) (w : World) :
    Calls Try.prog 29 #[.agg #[.int .i64 x.k, .int .i64 x.l, .int .i64 x.r, .int .i64 x.a, .int .i64 x.b, .int .i64 x.c, .int .i64 x.d], .agg #[.int .i64 a, .int .i64 b]] w fun e w' => e = .returned (.tuple #[.int .i64 (pvV x a b), .int .i64 (pvE x a b)]) ∧ Later w w' := by
  cases h : sgB x
  · have e1 : pvV x a b = 0 := by unfold pvV; rw [h]; rfl
    have e2 : pvE x a b = 1 := by unfold pvE; rw [h]; rfl
    rw [e1, e2]
    go_enter Try.func29, Try.ntmps29
    go_wp2_with (first | (go_at_call 63; refine (i_IsSegment x _).mono ?_; rintro e w1 ⟨rfl, hb⟩; obtain ⟨H, hcc, hff, hzz⟩ := later_facts hb; clear hb; (try simp at hzz); (try simp only [World.heap_drewN, World.cell?_drewN, World.frozen?_drewN] at hcc hff); have hz0 : w.heap.size < w1.heap.size := (by omega); (try (have hz1 : w.heap.size + 1 < w1.heap.size := (by omega))); (try (have hz2 : w.heap.size + 1 + 1 < w1.heap.size := (by omega))); (try (have hz3 : w.heap.size + 1 + 1 + 1 < w1.heap.size := (by omega))); (try (have hz4 : w.heap.size + 1 + 1 + 1 + 1 < w1.heap.size := (by omega)))))
    go_ret2
    exact ⟨rfl, (by repeat (first | (with_reducible exact Later.refl _) | (with_reducible exact Hid.out (by assumption)) | (with_reducible refine Later.alloc ?_ _) | (with_reducible refine Later.setCell ?_ (by simp; omega) _) | (with_reducible refine Later.setCell ?_ (by simp) _) | (with_reducible refine Later.drewN ?_ _) | (with_reducible refine Later.drew ?_) | (with_reducible refine Later.trans ?_ (Hid.out (by assumption)))))⟩
  · cases h2 : enB a b
    · have e1 : pvV x a b = 0 := by unfold pvV; rw [h, h2]; rfl
      have e2 : pvE x a b = 1 := by unfold pvE; rw [h, h2]; rfl
      rw [e1, e2]
      go_enter Try.func29, Try.ntmps29
      go_wp2_with (first | (go_at_call 63; refine (i_IsSegment x _).mono ?_; rintro e w1 ⟨rfl, hb⟩; obtain ⟨H, hcc, hff, hzz⟩ := later_facts hb; clear hb; (try simp at hzz); (try simp only [World.heap_drewN, World.cell?_drewN, World.frozen?_drewN] at hcc hff); have hz0 : w.heap.size < w1.heap.size := (by omega); (try (have hz1 : w.heap.size + 1 < w1.heap.size := (by omega))); (try (have hz2 : w.heap.size + 1 + 1 < w1.heap.size := (by omega))); (try (have hz3 : w.heap.size + 1 + 1 + 1 < w1.heap.size := (by omega))); (try (have hz4 : w.heap.size + 1 + 1 + 1 + 1 < w1.heap.size := (by omega)))) | (go_at_call 64; refine (i_IsEnergy _ _ _).mono ?_; rintro e w1 ⟨rfl, hb⟩; obtain ⟨H, hcc, hff, hzz⟩ := later_facts hb; clear hb; (try simp at hzz); (try simp only [World.heap_drewN, World.cell?_drewN, World.frozen?_drewN] at hcc hff); have hz0 : w.heap.size < w1.heap.size := (by omega); (try (have hz1 : w.heap.size + 1 < w1.heap.size := (by omega))); (try (have hz2 : w.heap.size + 1 + 1 < w1.heap.size := (by omega))); (try (have hz3 : w.heap.size + 1 + 1 + 1 < w1.heap.size := (by omega))); (try (have hz4 : w.heap.size + 1 + 1 + 1 + 1 < w1.heap.size := (by omega)))))
      go_ret2
      exact ⟨rfl, (by repeat (first | (with_reducible exact Later.refl _) | (with_reducible exact Hid.out (by assumption)) | (with_reducible refine Later.alloc ?_ _) | (with_reducible refine Later.setCell ?_ (by simp; omega) _) | (with_reducible refine Later.setCell ?_ (by simp) _) | (with_reducible refine Later.drewN ?_ _) | (with_reducible refine Later.drew ?_) | (with_reducible refine Later.trans ?_ (Hid.out (by assumption)))))⟩
    · have e1 : pvV x a b = vrd (a + chL x) (b + chH x) := by unfold pvV; rw [h, h2]; rfl
      have e2 : pvE x a b = 0 := by unfold pvE; rw [h, h2]; rfl
      rw [e1, e2]
      obtain ⟨c1, c2, c3⟩ := ch_bd x h
      obtain ⟨c4, c5, c6⟩ := (enB_iff a b).1 h2
      clear e1 e2
      go_enter Try.func29, Try.ntmps29
      go_upto_region 1 with (fail)
      refine into (Held [(w.heap.size, 0, .int .i64 x.k), (w.heap.size, 1, .int .i64 x.l), (w.heap.size, 2, .int .i64 x.r), (w.heap.size, 3, .int .i64 x.a), (w.heap.size, 4, .int .i64 x.b), (w.heap.size, 5, .int .i64 x.c), (w.heap.size, 6, .int .i64 x.d), (w.heap.size + 1, 0, .int .i64 a), (w.heap.size + 1, 1, .int .i64 b)] w) ⟨by simp <;> omega, (by repeat (first | (with_reducible exact Later.refl _) | (with_reducible exact Hid.out (by assumption)) | (with_reducible refine Later.alloc ?_ _) | (with_reducible refine Later.setCell ?_ (by simp; omega) _) | (with_reducible refine Later.setCell ?_ (by simp) _) | (with_reducible refine Later.drewN ?_ _) | (with_reducible refine Later.drew ?_) | (with_reducible refine Later.trans ?_ (Hid.out (by assumption)))))⟩ ?_
      intro W hW
      obtain ⟨p0, p1, p2, p3, p4, p5, p6, p7, p8, _⟩ := Held.s9 hW
      have zz := hW.1
      simp at zz
      obtain ⟨⟨z0, _⟩, _, _, _, _, _, _, ⟨z1, _⟩, _⟩ := zz
      go_wp2_with (first | (go_at_call 63; refine (i_IsSegment x _).mono ?_; rintro e w1 ⟨rfl, hb⟩; obtain ⟨H, hcc, hff, hzz⟩ := later_facts hb; clear hb; (try simp at hzz); (try simp only [World.heap_drewN, World.cell?_drewN, World.frozen?_drewN] at hcc hff); have hz0 : w.heap.size < w1.heap.size := (by omega); (try (have hz1 : w.heap.size + 1 < w1.heap.size := (by omega))); (try (have hz2 : w.heap.size + 1 + 1 < w1.heap.size := (by omega))); (try (have hz3 : w.heap.size + 1 + 1 + 1 < w1.heap.size := (by omega))); (try (have hz4 : w.heap.size + 1 + 1 + 1 + 1 < w1.heap.size := (by omega)))) | (go_at_call 64; refine (i_IsEnergy _ _ _).mono ?_; rintro e w1 ⟨rfl, hb⟩; obtain ⟨H, hcc, hff, hzz⟩ := later_facts hb; clear hb; (try simp at hzz); (try simp only [World.heap_drewN, World.cell?_drewN, World.frozen?_drewN] at hcc hff); have hz0 : w.heap.size < w1.heap.size := (by omega); (try (have hz1 : w.heap.size + 1 < w1.heap.size := (by omega))); (try (have hz2 : w.heap.size + 1 + 1 < w1.heap.size := (by omega))); (try (have hz3 : w.heap.size + 1 + 1 + 1 < w1.heap.size := (by omega))); (try (have hz4 : w.heap.size + 1 + 1 + 1 + 1 < w1.heap.size := (by omega)))))
      refine into (Held [(w.heap.size, 0, .int .i64 x.k), (w.heap.size, 1, .int .i64 x.l), (w.heap.size, 2, .int .i64 x.r), (w.heap.size, 3, .int .i64 x.a), (w.heap.size, 4, .int .i64 x.b), (w.heap.size, 5, .int .i64 x.c), (w.heap.size, 6, .int .i64 x.d), (w.heap.size + 1, 0, .int .i64 a), (w.heap.size + 1, 1, .int .i64 b)] w) (Held.later hW (by repeat (first | (with_reducible exact Later.refl _) | (with_reducible exact Hid.out (by assumption)) | (with_reducible refine Later.alloc ?_ _) | (with_reducible refine Later.setCell ?_ (by simp; omega) _) | (with_reducible refine Later.setCell ?_ (by simp) _) | (with_reducible refine Later.drewN ?_ _) | (with_reducible refine Later.drew ?_) | (with_reducible refine Later.trans ?_ (Hid.out (by assumption)))))) ?_
      clear p0 p1 p2 p3 p4 p5 p6 p7 p8
      intro W hW
      go_cut [6] (Box2 w (a + chL x) (b + chH x))
      case first =>
        go_region_held3 (fun w' => w'.cell? ⟨w.heap.size, 0, none⟩ = some (.int .i64 x.k) ∧ w'.cell? ⟨w.heap.size, 1, none⟩ = some (.int .i64 x.l) ∧ w'.cell? ⟨w.heap.size, 2, none⟩ = some (.int .i64 x.r) ∧ w'.cell? ⟨w.heap.size, 3, none⟩ = some (.int .i64 x.a) ∧ w'.cell? ⟨w.heap.size, 4, none⟩ = some (.int .i64 x.b) ∧ w'.cell? ⟨w.heap.size, 5, none⟩ = some (.int .i64 x.c) ∧ w'.cell? ⟨w.heap.size, 6, none⟩ = some (.int .i64 x.d) ∧ w'.cell? ⟨w.heap.size + 1, 0, none⟩ = some (.int .i64 a) ∧ w'.cell? ⟨w.heap.size + 1, 1, none⟩ = some (.int .i64 b) ∧ Held [(w.heap.size, 0, .int .i64 x.k), (w.heap.size, 1, .int .i64 x.l), (w.heap.size, 2, .int .i64 x.r), (w.heap.size, 3, .int .i64 x.a), (w.heap.size, 4, .int .i64 x.b), (w.heap.size, 5, .int .i64 x.c), (w.heap.size, 6, .int .i64 x.d), (w.heap.size + 1, 0, .int .i64 a), (w.heap.size + 1, 1, .int .i64 b)] w w') (exact Held.s9 (Held.later hW (by repeat (first | exact Later.refl _ | refine Later.drew ?_ | refine Later.drewN ?_ _ | refine Later.alloc ?_ _ | refine Later.trans ?_ (Hid.out (by assumption)) | refine Later.set_at ?_ ?_ _ _))))
          (first
            | (go_at_call 71; refine (i_coastingChange x _ h).mono ?_; rintro e w1 ⟨rfl, hb⟩; have H := Lib.hid hb; (first | (have F := fr_alloc hb; obtain ⟨f1, f2, f3, f4⟩ := Fr.o2 F) | (have F := fr_alloc_drew hb; obtain ⟨f1, f2, f3, f4⟩ := Fr.o2 F) | (have F := fr_later (by assumption) hb; obtain ⟨f1, f2, f3, f4⟩ := Fr.o2 F) | skip); clear hb)
            | (go_at_call 76; refine (i_plus _ _ _ _ _ (by omega) (by omega) (by omega) (by omega) (by omega) (by omega) (by omega) (by omega)).mono ?_; rintro e w1 ⟨rfl, hb⟩; have H := Lib.hid hb; (first | (have F := fr_alloc hb; obtain ⟨f1, f2, f3, f4⟩ := Fr.o2 F) | (have F := fr_alloc_drew hb; obtain ⟨f1, f2, f3, f4⟩ := Fr.o2 F) | (have F := fr_later (by assumption) hb; obtain ⟨f1, f2, f3, f4⟩ := Fr.o2 F) | skip); clear hb))
        all_goals
          go_wp2_with fail
          go_meet
          exact ⟨_, rfl, held_two (Held.is hW) (by repeat (first | exact Later.refl _ | refine Later.drew ?_ | refine Later.drewN ?_ _ | refine Later.alloc ?_ _ | refine Later.trans ?_ (Hid.out (by assumption)) | refine Later.set_at ?_ ?_ _ _)) (by first | (simp; done) | (simp [*]; done) | (simp [go_sem, *]; done)) (by first | (simp; done) | (simp [*]; done) | (simp [go_sem, *]; done)) (by first | (simp; done) | (simp; exact Fr.lt (by assumption)))⟩
      case rest =>
        obtain ⟨g, rfl, hG⟩ := hcut
        obtain ⟨q0, q1, _⟩ := Held.s2 hG
        by_cases h3 : 0 ≤ a + chL x
        · have e1 : Hid (vrd (a + chL x) (b + chH x) = 2) := Lib.hid (by unfold vrd; rw [if_pos h3])
          go_wp2
          go_ret2
          exact ⟨ret_2i e1.out.symm rfl, Held.is hG⟩
        · by_cases h4 : b + chH x < 0
          · have e1 : Hid (vrd (a + chL x) (b + chH x) = 0) := Lib.hid (by unfold vrd; rw [if_neg h3, if_pos h4])
            go_wp2
            go_ret2
            exact ⟨ret_2i e1.out.symm rfl, Held.is hG⟩
          · have e1 : Hid (vrd (a + chL x) (b + chH x) = 1) := Lib.hid (by unfold vrd; rw [if_neg h3, if_neg h4])
            go_wp2
            go_ret2
            exact ⟨ret_2i e1.out.symm rfl, Held.is hG⟩
end Go.Proofs.Ytdhoiiejcmnmbaa
namespace Go.Proofs.Ytdhoiiejcmnmbaa
open Go.RowKit
set_option maxHeartbeats 4000000
set_option linter.unusedVariables false
set_option linter.unusedSimpArgs false
theorem i_slows (a b : Int) (w : World) : Calls Try.prog 111 #[.agg #[.int .i64 a, .int .i64 b]] w fun e w' => e = .returned (.bool (decide (1 ≤ a))) ∧ Later w w' := by
  go_enter Try.func111, Try.ntmps111
  go_wp2
  go_ret
  exact ⟨ret_b (by first | rfl | simp), (by repeat (first | (with_reducible exact Later.refl _) | (with_reducible exact Hid.out (by assumption)) | (with_reducible refine Later.alloc ?_ _) | (with_reducible refine Later.setCell ?_ (by simp; omega) _) | (with_reducible refine Later.setCell ?_ (by simp) _) | (with_reducible refine Later.drewN ?_ _) | (with_reducible refine Later.drew ?_) | (with_reducible refine Later.trans ?_ (Hid.out (by assumption)))))⟩
theorem i_deviceEnergy (x : Sg) (w : World) (h : sgB x = true) :
    Calls Try.prog 90 #[.agg #[.int .i64 x.k, .int .i64 x.l, .int .i64 x.r, .int .i64 x.a, .int .i64 x.b, .int .i64 x.c, .int .i64 x.d]] w fun e w' => e = .returned (.agg #[.int .i64 (fcL x), .int .i64 (fcH x)]) ∧ Later w w' := by
  obtain ⟨g1, g2, g3, g4, g5, g6⟩ := fc_bd x h
  obtain ⟨l1, l2⟩ := ((sgB_iff x).1 h).2.1
  unfold fcL fcH at *
  go_enter Try.func90, Try.ntmps90
  go_wp2_with (first | (go_at_call 73; refine (i_times_nn _ _ _ _ (by omega) (by omega) (by omega) (by omega) (by omega)).mono ?_; rintro e w1 ⟨rfl, hb⟩; obtain ⟨H, hcc, hff, hzz⟩ := later_facts hb; clear hb; (try simp at hzz); (try simp only [World.heap_drewN, World.cell?_drewN, World.frozen?_drewN] at hcc hff); have hz0 : w.heap.size < w1.heap.size := (by omega); (try (have hz1 : w.heap.size + 1 < w1.heap.size := (by omega))); (try (have hz2 : w.heap.size + 1 + 1 < w1.heap.size := (by omega))); (try (have hz3 : w.heap.size + 1 + 1 + 1 < w1.heap.size := (by omega))); (try (have hz4 : w.heap.size + 1 + 1 + 1 + 1 < w1.heap.size := (by omega)))))
  refine bodyPost_ret (v := .agg #[.int .i64 (x.c * (2 * x.l)), .int .i64 (x.d * (2 * x.l))]) (by simp [results, Try.results90, go_sem, *]) rfl ⟨rfl, (by repeat (first | (with_reducible exact Later.refl _) | (with_reducible exact Hid.out (by assumption)) | (with_reducible refine Later.alloc ?_ _) | (with_reducible refine Later.setCell ?_ (by simp; omega) _) | (with_reducible refine Later.setCell ?_ (by simp) _) | (with_reducible refine Later.drewN ?_ _) | (with_reducible refine Later.drew ?_) | (with_reducible refine Later.trans ?_ (Hid.out (by assumption)))))⟩
theorem i_BrakeWork (x : Sg) (w : World) :
    Calls Try.prog 45 #[.agg #[.int .i64 x.k, .int .i64 x.l, .int .i64 x.r, .int .i64 x.a, .int .i64 x.b, .int .i64 x.c, .int .i64 x.d]] w fun e w' => e = .returned (.tuple #[.agg #[.int .i64 (bwL x), .int .i64 (bwH x)], .int .i64 (brE x)]) ∧ Later w w' := by
  by_cases hk : kndB x.k = true
  · cases h1 : sgB x
    · have hK := Lib.hid hk
      have e1 : brE x = 1 := by unfold brE; rw [h1]; rfl
      have e2 : bwL x = 0 := by unfold bwL; rw [e1]; rfl
      have e3 : bwH x = 0 := by unfold bwH; rw [e1]; rfl
      rw [e1, e2, e3]
      clear hk e1 e2 e3
      go_enter Try.func45, Try.ntmps45
      go_wp2_with (first
      | (go_at_call 89; refine (i_kindOf _ hK.out _).mono ?_; rintro e w' ⟨rfl, rfl⟩)
      | (go_at_call 63; refine (i_IsSegment x _).mono ?_; rintro e w1 ⟨rfl, hb⟩; obtain ⟨H, hcc, hff, hzz⟩ := later_facts hb; clear hb; (try simp at hzz); (try simp only [World.heap_drewN, World.cell?_drewN, World.frozen?_drewN] at hcc hff); have hz0 : w.heap.size < w1.heap.size := (by omega); (try (have hz1 : w.heap.size + 1 < w1.heap.size := (by omega))); (try (have hz2 : w.heap.size + 1 + 1 < w1.heap.size := (by omega))); (try (have hz3 : w.heap.size + 1 + 1 + 1 < w1.heap.size := (by omega))); (try (have hz4 : w.heap.size + 1 + 1 + 1 + 1 < w1.heap.size := (by omega)))))
      refine bodyPost_ret (v := .tuple #[.agg #[.int .i64 0, .int .i64 0], .int .i64 1]) (by simp [results, Try.results45, go_sem, *]) rfl ⟨rfl, (by repeat (first | (with_reducible exact Later.refl _) | (with_reducible exact Hid.out (by assumption)) | (with_reducible refine Later.alloc ?_ _) | (with_reducible refine Later.setCell ?_ (by simp; omega) _) | (with_reducible refine Later.setCell ?_ (by simp) _) | (with_reducible refine Later.drewN ?_ _) | (with_reducible refine Later.drew ?_) | (with_reducible refine Later.trans ?_ (Hid.out (by assumption)))))⟩
    · have hch := Lib.hid (ch_bd x h1)
      have hfc := Lib.hid (fc_bd x h1)
      have hln := Lib.hid ((sgB_iff x).1 h1).2.1
      have HX := Lib.hid h1
      rcases x with ⟨k, l, r, a, b, c, d⟩
      rcases kinds hk with hkk | hkk | hkk | hkk | hkk
      · dsimp only at hkk h1 hk
        subst hkk
        have hK := Lib.hid hk
        have a3 := as0_3; have a4 := as0_4
        have e1 : brE ⟨0, l, r, a, b, c, d⟩ = 5 := by unfold brE; rw [h1]; rfl
        have e2 : bwL ⟨0, l, r, a, b, c, d⟩ = 0 := by unfold bwL; rw [e1]; rfl
        have e3 : bwH ⟨0, l, r, a, b, c, d⟩ = 0 := by unfold bwH; rw [e1]; rfl
        rw [e1, e2, e3]
        clear hk e1 e2 e3 hch hfc hln HX
        go_enter Try.func45, Try.ntmps45
        go_wp2_with (first | (go_at_call 89; refine (i_kindOf _ hK.out _).mono ?_; rintro e w' ⟨rfl, rfl⟩; generalize hq : kndV _ = V; obtain rfl : V = .iface 122 (.agg #[]) := hq.symm.trans (by simp [kndV]); clear hq) | (go_at_call 63; refine (i_IsSegment ⟨0, l, r, a, b, c, d⟩ _).mono ?_; rintro e w1 ⟨rfl, hb⟩; obtain ⟨H, hcc, hff, hzz⟩ := later_facts hb; clear hb; (try simp at hzz); (try simp only [World.heap_drewN, World.cell?_drewN, World.frozen?_drewN] at hcc hff); have hz0 : w.heap.size < w1.heap.size := (by omega); (try (have hz1 : w.heap.size + 1 < w1.heap.size := (by omega))); (try (have hz2 : w.heap.size + 1 + 1 < w1.heap.size := (by omega))); (try (have hz3 : w.heap.size + 1 + 1 + 1 < w1.heap.size := (by omega))); (try (have hz4 : w.heap.size + 1 + 1 + 1 + 1 < w1.heap.size := (by omega)))))
        refine bodyPost_ret (v := .tuple #[.agg #[.int .i64 0, .int .i64 0], .int .i64 5]) (by simp [results, Try.results45, go_sem, *]) rfl ⟨rfl, (by repeat (first | (with_reducible exact Later.refl _) | (with_reducible exact Hid.out (by assumption)) | (with_reducible refine Later.alloc ?_ _) | (with_reducible refine Later.setCell ?_ (by simp; omega) _) | (with_reducible refine Later.setCell ?_ (by simp) _) | (with_reducible refine Later.drewN ?_ _) | (with_reducible refine Later.drew ?_) | (with_reducible refine Later.trans ?_ (Hid.out (by assumption)))))⟩
      · dsimp only at hkk h1 hk
        subst hkk
        have hK := Lib.hid hk
        have a3 := as1_3; have a4 := as1_4
        have e1 : brE ⟨1, l, r, a, b, c, d⟩ = 5 := by unfold brE; rw [h1]; rfl
        have e2 : bwL ⟨1, l, r, a, b, c, d⟩ = 0 := by unfold bwL; rw [e1]; rfl
        have e3 : bwH ⟨1, l, r, a, b, c, d⟩ = 0 := by unfold bwH; rw [e1]; rfl
        rw [e1, e2, e3]
        clear hk e1 e2 e3 hch hfc hln HX
        go_enter Try.func45, Try.ntmps45
        go_wp2_with (first | (go_at_call 89; refine (i_kindOf _ hK.out _).mono ?_; rintro e w' ⟨rfl, rfl⟩; generalize hq : kndV _ = V; obtain rfl : V = .iface 123 (.agg #[]) := hq.symm.trans (by simp [kndV]); clear hq) | (go_at_call 63; refine (i_IsSegment ⟨1, l, r, a, b, c, d⟩ _).mono ?_; rintro e w1 ⟨rfl, hb⟩; obtain ⟨H, hcc, hff, hzz⟩ := later_facts hb; clear hb; (try simp at hzz); (try simp only [World.heap_drewN, World.cell?_drewN, World.frozen?_drewN] at hcc hff); have hz0 : w.heap.size < w1.heap.size := (by omega); (try (have hz1 : w.heap.size + 1 < w1.heap.size := (by omega))); (try (have hz2 : w.heap.size + 1 + 1 < w1.heap.size := (by omega))); (try (have hz3 : w.heap.size + 1 + 1 + 1 < w1.heap.size := (by omega))); (try (have hz4 : w.heap.size + 1 + 1 + 1 + 1 < w1.heap.size := (by omega)))))
        refine bodyPost_ret (v := .tuple #[.agg #[.int .i64 0, .int .i64 0], .int .i64 5]) (by simp [results, Try.results45, go_sem, *]) rfl ⟨rfl, (by repeat (first | (with_reducible exact Later.refl _) | (with_reducible exact Hid.out (by assumption)) | (with_reducible refine Later.alloc ?_ _) | (with_reducible refine Later.setCell ?_ (by simp; omega) _) | (with_reducible refine Later.setCell ?_ (by simp) _) | (with_reducible refine Later.drewN ?_ _) | (with_reducible refine Later.drew ?_) | (with_reducible refine Later.trans ?_ (Hid.out (by assumption)))))⟩
      · dsimp only at hkk h1 hk
        subst hkk
        have hK := Lib.hid hk
        have a3 := as2_3; have a4 := as2_4
        have e1 : brE ⟨2, l, r, a, b, c, d⟩ = 5 := by unfold brE; rw [h1]; rfl
        have e2 : bwL ⟨2, l, r, a, b, c, d⟩ = 0 := by unfold bwL; rw [e1]; rfl
        have e3 : bwH ⟨2, l, r, a, b, c, d⟩ = 0 := by unfold bwH; rw [e1]; rfl
        rw [e1, e2, e3]
        clear hk e1 e2 e3 hch hfc hln HX
        go_enter Try.func45, Try.ntmps45
        go_wp2_with (first | (go_at_call 89; refine (i_kindOf _ hK.out _).mono ?_; rintro e w' ⟨rfl, rfl⟩; generalize hq : kndV _ = V; obtain rfl : V = .iface 124 (.agg #[]) := hq.symm.trans (by simp [kndV]); clear hq) | (go_at_call 63; refine (i_IsSegment ⟨2, l, r, a, b, c, d⟩ _).mono ?_; rintro e w1 ⟨rfl, hb⟩; obtain ⟨H, hcc, hff, hzz⟩ := later_facts hb; clear hb; (try simp at hzz); (try simp only [World.heap_drewN, World.cell?_drewN, World.frozen?_drewN] at hcc hff); have hz0 : w.heap.size < w1.heap.size := (by omega); (try (have hz1 : w.heap.size + 1 < w1.heap.size := (by omega))); (try (have hz2 : w.heap.size + 1 + 1 < w1.heap.size := (by omega))); (try (have hz3 : w.heap.size + 1 + 1 + 1 < w1.heap.size := (by omega))); (try (have hz4 : w.heap.size + 1 + 1 + 1 + 1 < w1.heap.size := (by omega)))))
        refine bodyPost_ret (v := .tuple #[.agg #[.int .i64 0, .int .i64 0], .int .i64 5]) (by simp [results, Try.results45, go_sem, *]) rfl ⟨rfl, (by repeat (first | (with_reducible exact Later.refl _) | (with_reducible exact Hid.out (by assumption)) | (with_reducible refine Later.alloc ?_ _) | (with_reducible refine Later.setCell ?_ (by simp; omega) _) | (with_reducible refine Later.setCell ?_ (by simp) _) | (with_reducible refine Later.drewN ?_ _) | (with_reducible refine Later.drew ?_) | (with_reducible refine Later.trans ?_ (Hid.out (by assumption)))))⟩
      · dsimp only at hkk h1 hk
        subst hkk
        have hK := Lib.hid hk
        have a3 := as3_3; have a4 := as3_4
        have e1 : brE ⟨3, l, r, a, b, c, d⟩ = 0 := by unfold brE; rw [h1]; rfl
        have e2 : bwL ⟨3, l, r, a, b, c, d⟩ = c * (2 * l) - chH ⟨3, l, r, a, b, c, d⟩ := by unfold bwL; rw [e1]; rfl
        have e3 : bwH ⟨3, l, r, a, b, c, d⟩ = d * (2 * l) - chL ⟨3, l, r, a, b, c, d⟩ := by unfold bwH; rw [e1]; rfl
        rw [e1, e2, e3]
        obtain ⟨l1, l2⟩ := hln.out
        obtain ⟨c1, c2, c3⟩ := hch.out
        obtain ⟨g1, g2, g3, g4, g5, g6⟩ := hfc.out
        dsimp only at l1 l2 g1 g2 g3
        have g4 : 0 ≤ c * (2 * l) := g4
        have g5 : c * (2 * l) ≤ d * (2 * l) := g5
        have g6 : d * (2 * l) ≤ 8000000000 := g6
        clear hk e1 e2 e3 hch hfc hln
        generalize hY : chL ⟨3, l, r, a, b, c, d⟩ = y at *
        generalize hZ : chH ⟨3, l, r, a, b, c, d⟩ = z at *
        have HC := fun w => i_coastingChange ⟨3, l, r, a, b, c, d⟩ w HX.out
        rw [hY, hZ] at HC
        have HD := fun w => i_deviceEnergy ⟨3, l, r, a, b, c, d⟩ w HX.out
        rw [show fcL ⟨3, l, r, a, b, c, d⟩ = c * (2 * l) from rfl, show fcH ⟨3, l, r, a, b, c, d⟩ = d * (2 * l) from rfl] at HD
        clear hY hZ
        go_enter Try.func45, Try.ntmps45
        go_upto_region 1 with (fail)
        refine into (fun W => Held [(w.heap.size, 0, .int .i64 3), (w.heap.size, 1, .int .i64 l), (w.heap.size, 2, .int .i64 r), (w.heap.size, 3, .int .i64 a), (w.heap.size, 4, .int .i64 b), (w.heap.size, 5, .int .i64 c), (w.heap.size, 6, .int .i64 d)] w W ∧ Fr (w.heap.size + 1) [.int .i64 0, .int .i64 0] W) ⟨?_, ?_⟩ ?_
        · exact (held_box (held_start w) w.heap.size [.int .i64 3, .int .i64 l, .int .i64 r, .int .i64 a, .int .i64 b, .int .i64 c, .int .i64 d] _ rfl).alloc _
        · have F := fr_alloc (X := (w.alloc (.cells [.int .i64 3, .int .i64 l, .int .i64 r, .int .i64 a, .int .i64 b, .int .i64 c, .int .i64 d].toArray 27))) (l := [.int .i64 0, .int .i64 0]) (T := 25) (Later.refl _)
          simp only [World.size_alloc] at F
          exact F
        rintro W ⟨hW, hF⟩
        obtain ⟨p0, p1, p2, p3, p4, p5, p6, _⟩ := Held.s7 hW
        obtain ⟨r0, r1, r2, r3⟩ := Fr.o2 hF
        have z0 := hW.lt w.heap.size 0 (.int .i64 3) (by simp)
        have z2 := hF.lt
        have HW := Lib.hid (Held.is hW)
        go_wp2_with (first | (go_at_call 89; refine (i_kindOf _ hK.out _).mono ?_; rintro e w' ⟨rfl, rfl⟩; generalize hq : kndV _ = V; obtain rfl : V = .iface 101 (.agg #[]) := hq.symm.trans (by simp [kndV]); clear hq) | (go_at_call 63; refine (i_IsSegment ⟨3, l, r, a, b, c, d⟩ _).mono ?_; rintro e w1 ⟨rfl, hb⟩; obtain ⟨H, hcc, hff, hzz⟩ := later_facts hb; clear hb; (try simp at hzz); (try simp only [World.heap_drewN, World.cell?_drewN, World.frozen?_drewN] at hcc hff); have hz0 : w.heap.size < w1.heap.size := (by omega); (try (have hz1 : w.heap.size + 1 < w1.heap.size := (by omega))); (try (have hz2 : w.heap.size + 1 + 1 < w1.heap.size := (by omega))); (try (have hz3 : w.heap.size + 1 + 1 + 1 < w1.heap.size := (by omega))); (try (have hz4 : w.heap.size + 1 + 1 + 1 + 1 < w1.heap.size := (by omega)))))
        refine into (fun W => Held [(w.heap.size, 0, .int .i64 3), (w.heap.size, 1, .int .i64 l), (w.heap.size, 2, .int .i64 r), (w.heap.size, 3, .int .i64 a), (w.heap.size, 4, .int .i64 b), (w.heap.size, 5, .int .i64 c), (w.heap.size, 6, .int .i64 d)] w W ∧ Fr (w.heap.size + 1) [.int .i64 0, .int .i64 0] W) ⟨Held.later hW (by repeat (first | (with_reducible exact Later.refl _) | (with_reducible exact Hid.out (by assumption)) | (with_reducible refine Later.alloc ?_ _) | (with_reducible refine Later.setCell ?_ (by simp; omega) _) | (with_reducible refine Later.setCell ?_ (by simp) _) | (with_reducible refine Later.drewN ?_ _) | (with_reducible refine Later.drew ?_) | (with_reducible refine Later.trans ?_ (Hid.out (by assumption))))), fr_later hF (by repeat (first | (with_reducible exact Later.refl _) | (with_reducible exact Hid.out (by assumption)) | (with_reducible refine Later.alloc ?_ _) | (with_reducible refine Later.setCell ?_ (by simp; omega) _) | (with_reducible refine Later.setCell ?_ (by simp) _) | (with_reducible refine Later.drewN ?_ _) | (with_reducible refine Later.drew ?_) | (with_reducible refine Later.trans ?_ (Hid.out (by assumption)))))⟩ ?_
        clear p0 p1 p2 p3 p4 p5 p6 r0 r1 r2 r3
        rintro W ⟨hW, F⟩
        have hwr : IntKind.i64.wrap (2 * l) = 2 * l := IntWalk.i64_in _ ⟨by omega, by omega⟩
        go_region_held3 (fun w' => w'.cell? ⟨w.heap.size, 0, none⟩ = some (.int .i64 3) ∧ w'.cell? ⟨w.heap.size, 1, none⟩ = some (.int .i64 l) ∧ w'.cell? ⟨w.heap.size, 2, none⟩ = some (.int .i64 r) ∧ w'.cell? ⟨w.heap.size, 3, none⟩ = some (.int .i64 a) ∧ w'.cell? ⟨w.heap.size, 4, none⟩ = some (.int .i64 b) ∧ w'.cell? ⟨w.heap.size, 5, none⟩ = some (.int .i64 c) ∧ w'.cell? ⟨w.heap.size, 6, none⟩ = some (.int .i64 d) ∧ Held [(w.heap.size, 0, .int .i64 3), (w.heap.size, 1, .int .i64 l), (w.heap.size, 2, .int .i64 r), (w.heap.size, 3, .int .i64 a), (w.heap.size, 4, .int .i64 b), (w.heap.size, 5, .int .i64 c), (w.heap.size, 6, .int .i64 d)] w w') ((refine Held.s7 ?_; (repeat (refine Held.setCell ?_ _ _ (by simp <;> omega) (by simp <;> omega))); refine Held.later hW ?_; repeat (first | exact Later.refl _ | refine Later.drew ?_ | refine Later.drewN ?_ _ | refine Later.alloc ?_ _ | refine Later.trans ?_ (Hid.out (by assumption)))))
          (first | (go_at_call 90; refine (HD _).mono ?_; rintro e w1 ⟨rfl, hb⟩; have H := Lib.hid hb; (first | (have F := fr_later F hb; obtain ⟨f1, f2, f3, f4⟩ := Fr.o2 F) | (have F := fr_later F (later_undrew hb); obtain ⟨f1, f2, f3, f4⟩ := Fr.o2 F) | (have F := fr_later F (later_undrewN hb); obtain ⟨f1, f2, f3, f4⟩ := Fr.o2 F)); clear hb) | (go_at_call 71; refine (HC _).mono ?_; rintro e w1 ⟨rfl, hb⟩; have H := Lib.hid hb; (first | (have F := fr_later F hb; obtain ⟨f1, f2, f3, f4⟩ := Fr.o2 F) | (have F := fr_later F (later_undrew hb); obtain ⟨f1, f2, f3, f4⟩ := Fr.o2 F) | (have F := fr_later F (later_undrewN hb); obtain ⟨f1, f2, f3, f4⟩ := Fr.o2 F)); clear hb) | (go_at_call 72; refine (i_minus _ _ _ _ _ (by omega) (by omega) (by omega) (by omega) (by omega) (by omega) (by omega) (by omega)).mono ?_; rintro e w1 ⟨rfl, hb⟩; have H := Lib.hid hb; (first | (have F := fr_later F hb; obtain ⟨f1, f2, f3, f4⟩ := Fr.o2 F) | (have F := fr_later F (later_undrew hb); obtain ⟨f1, f2, f3, f4⟩ := Fr.o2 F) | (have F := fr_later F (later_undrewN hb); obtain ⟨f1, f2, f3, f4⟩ := Fr.o2 F)); clear hb))
        all_goals
          go_wp2_with fail
          refine bodyPost_ret (v := .tuple #[.agg #[.int .i64 (c * (2 * l) - z), .int .i64 (d * (2 * l) - y)], .int .i64 0]) (by simp [results, Try.results45, go_sem, *]) rfl ⟨rfl, Later.setCell (Later.setCell (Later.trans (Held.is hW) (by (repeat (first | exact Later.refl _ | refine Later.drew ?_ | refine Later.drewN ?_ _ | refine Later.alloc ?_ _ | refine Later.trans ?_ (Hid.out (by assumption)))); done)) (by simp <;> omega) _) (by simp <;> omega) _⟩
      · dsimp only at hkk h1 hk
        subst hkk
        have hK := Lib.hid hk
        have a3 := as4_3; have a4 := as4_4
        have e1 : brE ⟨4, l, r, a, b, c, d⟩ = 0 := by unfold brE; rw [h1]; rfl
        have e2 : bwL ⟨4, l, r, a, b, c, d⟩ = c * (2 * l) - chH ⟨4, l, r, a, b, c, d⟩ := by unfold bwL; rw [e1]; rfl
        have e3 : bwH ⟨4, l, r, a, b, c, d⟩ = d * (2 * l) - chL ⟨4, l, r, a, b, c, d⟩ := by unfold bwH; rw [e1]; rfl
        rw [e1, e2, e3]
        obtain ⟨l1, l2⟩ := hln.out
        obtain ⟨c1, c2, c3⟩ := hch.out
        obtain ⟨g1, g2, g3, g4, g5, g6⟩ := hfc.out
        dsimp only at l1 l2 g1 g2 g3
        have g4 : 0 ≤ c * (2 * l) := g4
        have g5 : c * (2 * l) ≤ d * (2 * l) := g5
        have g6 : d * (2 * l) ≤ 8000000000 := g6
        clear hk e1 e2 e3 hch hfc hln
        generalize hY : chL ⟨4, l, r, a, b, c, d⟩ = y at *
        generalize hZ : chH ⟨4, l, r, a, b, c, d⟩ = z at *
        have HC := fun w => i_coastingChange ⟨4, l, r, a, b, c, d⟩ w HX.out
        rw [hY, hZ] at HC
        have HD := fun w => i_deviceEnergy ⟨4, l, r, a, b, c, d⟩ w HX.out
        rw [show fcL ⟨4, l, r, a, b, c, d⟩ = c * (2 * l) from rfl, show fcH ⟨4, l, r, a, b, c, d⟩ = d * (2 * l) from rfl] at HD
        clear hY hZ
        go_enter Try.func45, Try.ntmps45
        go_upto_region 1 with (fail)
        refine into (fun W => Held [(w.heap.size, 0, .int .i64 4), (w.heap.size, 1, .int .i64 l), (w.heap.size, 2, .int .i64 r), (w.heap.size, 3, .int .i64 a), (w.heap.size, 4, .int .i64 b), (w.heap.size, 5, .int .i64 c), (w.heap.size, 6, .int .i64 d)] w W ∧ Fr (w.heap.size + 1) [.int .i64 0, .int .i64 0] W) ⟨?_, ?_⟩ ?_
        · exact (held_box (held_start w) w.heap.size [.int .i64 4, .int .i64 l, .int .i64 r, .int .i64 a, .int .i64 b, .int .i64 c, .int .i64 d] _ rfl).alloc _
        · have F := fr_alloc (X := (w.alloc (.cells [.int .i64 4, .int .i64 l, .int .i64 r, .int .i64 a, .int .i64 b, .int .i64 c, .int .i64 d].toArray 27))) (l := [.int .i64 0, .int .i64 0]) (T := 25) (Later.refl _)
          simp only [World.size_alloc] at F
          exact F
        rintro W ⟨hW, hF⟩
        obtain ⟨p0, p1, p2, p3, p4, p5, p6, _⟩ := Held.s7 hW
        obtain ⟨r0, r1, r2, r3⟩ := Fr.o2 hF
        have z0 := hW.lt w.heap.size 0 (.int .i64 4) (by simp)
        have z2 := hF.lt
        have HW := Lib.hid (Held.is hW)
        go_wp2_with (first | (go_at_call 89; refine (i_kindOf _ hK.out _).mono ?_; rintro e w' ⟨rfl, rfl⟩; generalize hq : kndV _ = V; obtain rfl : V = .iface 102 (.agg #[]) := hq.symm.trans (by simp [kndV]); clear hq) | (go_at_call 63; refine (i_IsSegment ⟨4, l, r, a, b, c, d⟩ _).mono ?_; rintro e w1 ⟨rfl, hb⟩; obtain ⟨H, hcc, hff, hzz⟩ := later_facts hb; clear hb; (try simp at hzz); (try simp only [World.heap_drewN, World.cell?_drewN, World.frozen?_drewN] at hcc hff); have hz0 : w.heap.size < w1.heap.size := (by omega); (try (have hz1 : w.heap.size + 1 < w1.heap.size := (by omega))); (try (have hz2 : w.heap.size + 1 + 1 < w1.heap.size := (by omega))); (try (have hz3 : w.heap.size + 1 + 1 + 1 < w1.heap.size := (by omega))); (try (have hz4 : w.heap.size + 1 + 1 + 1 + 1 < w1.heap.size := (by omega)))))
        refine into (fun W => Held [(w.heap.size, 0, .int .i64 4), (w.heap.size, 1, .int .i64 l), (w.heap.size, 2, .int .i64 r), (w.heap.size, 3, .int .i64 a), (w.heap.size, 4, .int .i64 b), (w.heap.size, 5, .int .i64 c), (w.heap.size, 6, .int .i64 d)] w W ∧ Fr (w.heap.size + 1) [.int .i64 0, .int .i64 0] W) ⟨Held.later hW (by repeat (first | (with_reducible exact Later.refl _) | (with_reducible exact Hid.out (by assumption)) | (with_reducible refine Later.alloc ?_ _) | (with_reducible refine Later.setCell ?_ (by simp; omega) _) | (with_reducible refine Later.setCell ?_ (by simp) _) | (with_reducible refine Later.drewN ?_ _) | (with_reducible refine Later.drew ?_) | (with_reducible refine Later.trans ?_ (Hid.out (by assumption))))), fr_later hF (by repeat (first | (with_reducible exact Later.refl _) | (with_reducible exact Hid.out (by assumption)) | (with_reducible refine Later.alloc ?_ _) | (with_reducible refine Later.setCell ?_ (by simp; omega) _) | (with_reducible refine Later.setCell ?_ (by simp) _) | (with_reducible refine Later.drewN ?_ _) | (with_reducible refine Later.drew ?_) | (with_reducible refine Later.trans ?_ (Hid.out (by assumption)))))⟩ ?_
        clear p0 p1 p2 p3 p4 p5 p6 r0 r1 r2 r3
        rintro W ⟨hW, F⟩
        have hwr : IntKind.i64.wrap (2 * l) = 2 * l := IntWalk.i64_in _ ⟨by omega, by omega⟩
        go_region_held3 (fun w' => w'.cell? ⟨w.heap.size, 0, none⟩ = some (.int .i64 4) ∧ w'.cell? ⟨w.heap.size, 1, none⟩ = some (.int .i64 l) ∧ w'.cell? ⟨w.heap.size, 2, none⟩ = some (.int .i64 r) ∧ w'.cell? ⟨w.heap.size, 3, none⟩ = some (.int .i64 a) ∧ w'.cell? ⟨w.heap.size, 4, none⟩ = some (.int .i64 b) ∧ w'.cell? ⟨w.heap.size, 5, none⟩ = some (.int .i64 c) ∧ w'.cell? ⟨w.heap.size, 6, none⟩ = some (.int .i64 d) ∧ Held [(w.heap.size, 0, .int .i64 4), (w.heap.size, 1, .int .i64 l), (w.heap.size, 2, .int .i64 r), (w.heap.size, 3, .int .i64 a), (w.heap.size, 4, .int .i64 b), (w.heap.size, 5, .int .i64 c), (w.heap.size, 6, .int .i64 d)] w w') ((refine Held.s7 ?_; (repeat (refine Held.setCell ?_ _ _ (by simp <;> omega) (by simp <;> omega))); refine Held.later hW ?_; repeat (first | exact Later.refl _ | refine Later.drew ?_ | refine Later.drewN ?_ _ | refine Later.alloc ?_ _ | refine Later.trans ?_ (Hid.out (by assumption)))))
          (first | (go_at_call 90; refine (HD _).mono ?_; rintro e w1 ⟨rfl, hb⟩; have H := Lib.hid hb; (first | (have F := fr_later F hb; obtain ⟨f1, f2, f3, f4⟩ := Fr.o2 F) | (have F := fr_later F (later_undrew hb); obtain ⟨f1, f2, f3, f4⟩ := Fr.o2 F) | (have F := fr_later F (later_undrewN hb); obtain ⟨f1, f2, f3, f4⟩ := Fr.o2 F)); clear hb) | (go_at_call 71; refine (HC _).mono ?_; rintro e w1 ⟨rfl, hb⟩; have H := Lib.hid hb; (first | (have F := fr_later F hb; obtain ⟨f1, f2, f3, f4⟩ := Fr.o2 F) | (have F := fr_later F (later_undrew hb); obtain ⟨f1, f2, f3, f4⟩ := Fr.o2 F) | (have F := fr_later F (later_undrewN hb); obtain ⟨f1, f2, f3, f4⟩ := Fr.o2 F)); clear hb) | (go_at_call 72; refine (i_minus _ _ _ _ _ (by omega) (by omega) (by omega) (by omega) (by omega) (by omega) (by omega) (by omega)).mono ?_; rintro e w1 ⟨rfl, hb⟩; have H := Lib.hid hb; (first | (have F := fr_later F hb; obtain ⟨f1, f2, f3, f4⟩ := Fr.o2 F) | (have F := fr_later F (later_undrew hb); obtain ⟨f1, f2, f3, f4⟩ := Fr.o2 F) | (have F := fr_later F (later_undrewN hb); obtain ⟨f1, f2, f3, f4⟩ := Fr.o2 F)); clear hb))
        all_goals
          go_wp2_with fail
          refine bodyPost_ret (v := .tuple #[.agg #[.int .i64 (c * (2 * l) - z), .int .i64 (d * (2 * l) - y)], .int .i64 0]) (by simp [results, Try.results45, go_sem, *]) rfl ⟨rfl, Later.setCell (Later.setCell (Later.trans (Held.is hW) (by (repeat (first | exact Later.refl _ | refine Later.drew ?_ | refine Later.drewN ?_ _ | refine Later.alloc ?_ _ | refine Later.trans ?_ (Hid.out (by assumption)))); done)) (by simp <;> omega) _) (by simp <;> omega) _⟩
  · have hk : kndB x.k = false := by simpa using hk
    have hK := Lib.hid hk
    have e1 : brE x = 1 := by unfold brE sgB; rw [hk]; rfl
    have e2 : bwL x = 0 := by unfold bwL; rw [e1]; rfl
    have e3 : bwH x = 0 := by unfold bwH; rw [e1]; rfl
    rw [e1, e2, e3]
    clear hk e1 e2 e3
    go_enter Try.func45, Try.ntmps45
    go_wp2_with (go_at_call 89; refine (i_kindOf_no _ hK.out _).mono ?_; rintro e w' ⟨rfl, rfl⟩)
    refine bodyPost_ret (v := .tuple #[.agg #[.int .i64 0, .int .i64 0], .int .i64 1]) (by simp [results, Try.results45, go_sem, *]) rfl ⟨rfl, (by repeat (first | (with_reducible exact Later.refl _) | (with_reducible exact Hid.out (by assumption)) | (with_reducible refine Later.alloc ?_ _) | (with_reducible refine Later.setCell ?_ (by simp; omega) _) | (with_reducible refine Later.setCell ?_ (by simp) _) | (with_reducible refine Later.drewN ?_ _) | (with_reducible refine Later.drew ?_) | (with_reducible refine Later.trans ?_ (Hid.out (by assumption)))))⟩
theorem i_slowingWork (x : Sg) (w : World) :
    Calls Try.prog 85 #[.agg #[.int .i64 x.k, .int .i64 x.l, .int .i64 x.r, .int .i64 x.a, .int .i64 x.b, .int .i64 x.c, .int .i64 x.d]] w fun e w' => e = .returned (.tuple #[.agg #[.int .i64 (slL x), .int .i64 (slH x)], .int .i64 (slE x)]) ∧ Later w w' := by
  have HB := fun w => i_BrakeWork x w
  by_cases h : brE x = 0
  · have b2 : bwL x = wkL x := by unfold bwL; rw [h]; rfl
    have b3 : bwH x = wkH x := by unfold bwH; rw [h]; rfl
    rw [h, b2, b3] at HB
    by_cases h2 : 1 ≤ wkL x
    · have e1 : slE x = 0 := by unfold slE; rw [if_pos h, if_pos h2]
      have e2 : slL x = wkL x := by unfold slL; rw [e1]; rfl
      have e3 : slH x = wkH x := by unfold slH; rw [e1]; rfl
      rw [e1, e2, e3]
      generalize wkL x = p at *
      generalize wkH x = q at *
      have hd : decide (1 ≤ p) = true := by simp; exact h2
      clear h b2 b3 e1 e2 e3
      go_enter Try.func85, Try.ntmps85
      go_wp2_with (first | (go_at_call 45; refine (HB _).mono ?_; rintro e w1 ⟨rfl, hb⟩; obtain ⟨H, hcc, hff, hzz⟩ := later_facts hb; clear hb; (try simp at hzz); (try simp only [World.heap_drewN, World.cell?_drewN, World.frozen?_drewN] at hcc hff); have hz0 : w.heap.size < w1.heap.size := (by omega); (try (have hz1 : w.heap.size + 1 < w1.heap.size := (by omega))); (try (have hz2 : w.heap.size + 1 + 1 < w1.heap.size := (by omega))); (try (have hz3 : w.heap.size + 1 + 1 + 1 < w1.heap.size := (by omega))); (try (have hz4 : w.heap.size + 1 + 1 + 1 + 1 < w1.heap.size := (by omega)))) | (go_at_call 111; refine (i_slows _ _ _).mono ?_; rw [hd]; rintro e w1 ⟨rfl, hb⟩; obtain ⟨H, hcc, hff, hzz⟩ := later_facts hb; clear hb; (try simp at hzz)))
      refine bodyPost_ret (v := .tuple #[.agg #[.int .i64 p, .int .i64 q], .int .i64 0]) (by simp [results, Try.results85, go_sem, *]) rfl ⟨rfl, (by repeat (first | (with_reducible exact Later.refl _) | (with_reducible exact Hid.out (by assumption)) | (with_reducible refine Later.alloc ?_ _) | (with_reducible refine Later.setCell ?_ (by simp; omega) _) | (with_reducible refine Later.setCell ?_ (by simp) _) | (with_reducible refine Later.drewN ?_ _) | (with_reducible refine Later.drew ?_) | (with_reducible refine Later.trans ?_ (Hid.out (by assumption)))))⟩
    · have e1 : slE x = 5 := by unfold slE; rw [if_pos h, if_neg h2]
      have e2 : slL x = 0 := by unfold slL; rw [e1]; rfl
      have e3 : slH x = 0 := by unfold slH; rw [e1]; rfl
      rw [e1, e2, e3]
      generalize wkL x = p at *
      generalize wkH x = q at *
      have hd : decide (1 ≤ p) = false := by simp; omega
      clear h b2 b3 e1 e2 e3
      go_enter Try.func85, Try.ntmps85
      go_wp2_with (first | (go_at_call 45; refine (HB _).mono ?_; rintro e w1 ⟨rfl, hb⟩; obtain ⟨H, hcc, hff, hzz⟩ := later_facts hb; clear hb; (try simp at hzz); (try simp only [World.heap_drewN, World.cell?_drewN, World.frozen?_drewN] at hcc hff); have hz0 : w.heap.size < w1.heap.size := (by omega); (try (have hz1 : w.heap.size + 1 < w1.heap.size := (by omega))); (try (have hz2 : w.heap.size + 1 + 1 < w1.heap.size := (by omega))); (try (have hz3 : w.heap.size + 1 + 1 + 1 < w1.heap.size := (by omega))); (try (have hz4 : w.heap.size + 1 + 1 + 1 + 1 < w1.heap.size := (by omega)))) | (go_at_call 111; refine (i_slows _ _ _).mono ?_; rw [hd]; rintro e w1 ⟨rfl, hb⟩; obtain ⟨H, hcc, hff, hzz⟩ := later_facts hb; clear hb; (try simp at hzz)))
      refine bodyPost_ret (v := .tuple #[.agg #[.int .i64 0, .int .i64 0], .int .i64 5]) (by simp [results, Try.results85, go_sem, *]) rfl ⟨rfl, (by repeat (first | (with_reducible exact Later.refl _) | (with_reducible exact Hid.out (by assumption)) | (with_reducible refine Later.alloc ?_ _) | (with_reducible refine Later.setCell ?_ (by simp; omega) _) | (with_reducible refine Later.setCell ?_ (by simp) _) | (with_reducible refine Later.drewN ?_ _) | (with_reducible refine Later.drew ?_) | (with_reducible refine Later.trans ?_ (Hid.out (by assumption)))))⟩
  · have e1 : slE x = brE x := by unfold slE; rw [if_neg h]
    have e2 : slL x = 0 := by unfold slL okV; rw [e1, if_neg h]
    have e3 : slH x = 0 := by unfold slH okV; rw [e1, if_neg h]
    have b2 : bwL x = 0 := by unfold bwL okV; rw [if_neg h]
    have b3 : bwH x = 0 := by unfold bwH okV; rw [if_neg h]
    rw [b2, b3] at HB
    rw [e1, e2, e3]
    generalize brE x = q at *
    have hne : (q != 0) = true := by simpa using h
    clear h b2 b3 e1 e2 e3
    go_enter Try.func85, Try.ntmps85
    go_wp2_with (go_at_call 45; refine (HB _).mono ?_; rintro e w1 ⟨rfl, hb⟩; obtain ⟨H, hcc, hff, hzz⟩ := later_facts hb; clear hb; (try simp at hzz); (try simp only [World.heap_drewN, World.cell?_drewN, World.frozen?_drewN] at hcc hff); have hz0 : w.heap.size < w1.heap.size := (by omega); (try (have hz1 : w.heap.size + 1 < w1.heap.size := (by omega))); (try (have hz2 : w.heap.size + 1 + 1 < w1.heap.size := (by omega))); (try (have hz3 : w.heap.size + 1 + 1 + 1 < w1.heap.size := (by omega))); (try (have hz4 : w.heap.size + 1 + 1 + 1 + 1 < w1.heap.size := (by omega))))
    refine bodyPost_ret (v := .tuple #[.agg #[.int .i64 0, .int .i64 0], .int .i64 q]) (by simp [results, Try.results85, go_sem, *]) rfl ⟨rfl, (by repeat (first | (with_reducible exact Later.refl _) | (with_reducible exact Hid.out (by assumption)) | (with_reducible refine Later.alloc ?_ _) | (with_reducible refine Later.setCell ?_ (by simp; omega) _) | (with_reducible refine Later.setCell ?_ (by simp) _) | (with_reducible refine Later.drewN ?_ _) | (with_reducible refine Later.drew ?_) | (with_reducible refine Later.trans ?_ (Hid.out (by assumption)))))⟩
end Go.Proofs.Ytdhoiiejcmnmbaa
namespace Go.Proofs.Ytdhoiiejcmnmbaa
open Go.RowKit
set_option maxHeartbeats 4000000
set_option linter.unusedVariables false
set_option linter.unusedSimpArgs false
theorem i_over (a b p q : Int) (w : World) (a1 : 0 ≤ a) (a2 : a ≤ 4000000000000000000) (b1 : 0 ≤ b) (b2 : b ≤ 4000000000000000000) (p1 : 1 ≤ p) (p2 : p ≤ 1000000000000) (q1 : 1 ≤ q) (q2 : q ≤ 1000000000000) :
    Calls Try.prog 74 #[.agg #[.int .i64 a, .int .i64 b], .agg #[.int .i64 p, .int .i64 q]] w fun e w' => e = .returned (.agg #[.int .i64 (flo a q), .int .i64 (cei b p)]) ∧ Later w w' := by
  rw [flo_nn a q a1 (by omega), cei_nn b p b1 (by omega)]
  have d1 := tdiv_bd a q 4000000000000000000 (by omega) (by omega)
  have d2 := tdiv_bd (b + p - 1) p 5000000000000000000 (by omega) (by omega)
  have w3 : IntKind.i64.wrap (b + p) = b + p := IntWalk.i64_in _ ⟨by omega, by omega⟩
  have w4 : IntKind.i64.wrap (b + p - 1) = b + p - 1 := IntWalk.i64_in _ ⟨by omega, by omega⟩
  have w5 : IntKind.i64.wrap (a.tdiv q) = a.tdiv q := IntWalk.i64_in _ ⟨by omega, by omega⟩
  have w6 : IntKind.i64.wrap ((b + p - 1).tdiv p) = (b + p - 1).tdiv p := IntWalk.i64_in _ ⟨by omega, by omega⟩
  have hp : p ≠ 0 := by omega
  have hq : q ≠ 0 := by omega
  have hp0 : (p == 0) = false := by simpa using hp
  have hq0 : (q == 0) = false := by simpa using hq
  go_enter Try.func74, Try.ntmps74
  go_upto_region 1 with (fail)
  refine into (fun W => Held [(w.heap.size + 1, 0, .int .i64 p), (w.heap.size + 1, 1, .int .i64 q), (w.heap.size, 0, .int .i64 a), (w.heap.size, 1, .int .i64 b)] w W ∧ Fr (w.heap.size + 1 + 1) [.int .i64 0, .int .i64 0] W) ⟨?_, ?_⟩ ?_
  · exact ((held_box (held_box (held_start w) (w.heap.size) [.int .i64 a, .int .i64 b] _ (by first | rfl | simp)) (w.heap.size + 1) [.int .i64 p, .int .i64 q] _ (by first | rfl | simp))).alloc _
  · have F := fr_alloc (X := ((w.alloc (.cells [(.int .i64 a : Value), .int .i64 b].toArray 25)).alloc (.cells [(.int .i64 p : Value), .int .i64 q].toArray 25))) (l := [.int .i64 0, .int .i64 0]) (T := 25) (Later.refl _)
    simp only [World.size_alloc] at F
    exact F
  rintro W ⟨hW, hF⟩
  obtain ⟨p0, p1, p2, p3, _⟩ := Held.s4 hW
  have z0 := Held.lt hW (w.heap.size) 0 (.int .i64 a) (by simp)
  have z1 := Held.lt hW (w.heap.size + 1) 0 (.int .i64 p) (by simp)
  obtain ⟨r0, r1, r2, r3⟩ := Fr.o2 hF
  have zr := Fr.lt hF
  clear p0 p1 p2 p3 r0 r1 r2 r3
  have F := hF
  obtain ⟨r0, r1, r2, r3⟩ := Fr.o2 hF
  go_region_held3 (fun w' => w'.cell? ⟨w.heap.size + 1, 0, none⟩ = some (.int .i64 p) ∧ w'.cell? ⟨w.heap.size + 1, 1, none⟩ = some (.int .i64 q) ∧ w'.cell? ⟨w.heap.size, 0, none⟩ = some (.int .i64 a) ∧ w'.cell? ⟨w.heap.size, 1, none⟩ = some (.int .i64 b) ∧ Held [(w.heap.size + 1, 0, .int .i64 p), (w.heap.size + 1, 1, .int .i64 q), (w.heap.size, 0, .int .i64 a), (w.heap.size, 1, .int .i64 b)] w w') ((refine Held.s4 ?_; (repeat (first | refine Held.drew ?_ | refine Held.drewN ?_ _ | refine Held.setCell ?_ _ _ (by simp <;> omega) (by simp <;> omega))); refine Held.later hW ?_; repeat (first | exact Later.refl _ | refine Later.drew ?_ | refine Later.drewN ?_ _ | refine Later.alloc ?_ _ | refine Later.trans ?_ (Hid.out (by assumption)))))
    (fail)
  all_goals
    go_wp2_with fail
    refine bodyPost_ret (v := .agg #[.int .i64 (a.tdiv q), .int .i64 ((b + p - 1).tdiv p)]) (by simp [results, Try.results74, go_sem, *]) rfl ⟨rfl, (by repeat (first | exact Held.is hW | refine Later.drew ?_ | refine Later.drewN ?_ _ | refine Later.setCell ?_ (by simp <;> omega) _ | refine Later.alloc ?_ _ | refine Later.trans ?_ (Hid.out (by assumption))))⟩
end Go.Proofs.Ytdhoiiejcmnmbaa
namespace Go.Proofs.Ytdhoiiejcmnmbaa
open Go.RowKit
set_option maxHeartbeats 4000000
set_option linter.unusedVariables false
set_option linter.unusedSimpArgs false
theorem Held.setNe {l : List (Nat × Nat × Value)} {w0 w1 : World} (h : Held l w0 w1) (p : Addr) (u : Value) (hp : ∀ x ∈ l, x.1 ≠ p.block) (hq : w0.heap.size ≤ p.block) : Held l w0 (w1.setCell p u) :=
  ⟨fun x hx => ⟨by rw [World.size_setCell]; exact (h.1 x hx).1, by rw [World.cell?_setCell_other _ _ _ _ (fun e => hp x hx (by rw [e]))]; exact (h.1 x hx).2⟩, h.2.setCell hq u⟩
theorem i_GreatestStop (x : Sg) (w : World) :
    Calls Try.prog 47 #[.agg #[.int .i64 x.k, .int .i64 x.l, .int .i64 x.r, .int .i64 x.a, .int .i64 x.b, .int .i64 x.c, .int .i64 x.d]] w fun e w' => e = .returned (.tuple #[.int .i64 (gsV x), .int .i64 (slE x)]) ∧ Later w w' := by
  have HB := fun w => i_slowingWork x w
  by_cases h : slE x = 0
  · have b2 : slL x = wkL x := by unfold slL; rw [h]; rfl
    have b3 : slH x = wkH x := by unfold slH; rw [h]; rfl
    have e1 : Hid (gsV x = min (wkL x) 10000000000) := Lib.hid (by unfold gsV; rw [h]; rfl)
    have e0 : Hid (slE x = 0) := Lib.hid h
    rw [h, b2, b3] at HB
    generalize wkL x = p at *
    generalize wkH x = q at *
    clear h b2 b3
    go_enter Try.func47, Try.ntmps47
    go_wp2_with (go_at_call 85; refine (HB _).mono ?_; rintro e w1 ⟨rfl, hb⟩; obtain ⟨H, hcc, hff, hzz⟩ := later_facts hb; clear hb; (try simp at hzz); (try simp only [World.heap_drewN, World.cell?_drewN, World.frozen?_drewN] at hcc hff); have hz0 : w.heap.size < w1.heap.size := (by omega); (try (have hz1 : w.heap.size + 1 < w1.heap.size := (by omega))); (try (have hz2 : w.heap.size + 1 + 1 < w1.heap.size := (by omega))); (try (have hz3 : w.heap.size + 1 + 1 + 1 < w1.heap.size := (by omega))); (try (have hz4 : w.heap.size + 1 + 1 + 1 + 1 < w1.heap.size := (by omega))))
    all_goals
      go_ret2
      exact ⟨ret_2i (by rw [e1.out]; omega) e0.out.symm, (by repeat (first | (with_reducible exact Later.refl _) | (with_reducible exact Hid.out (by assumption)) | (with_reducible refine Later.alloc ?_ _) | (with_reducible refine Later.setCell ?_ (by simp; omega) _) | (with_reducible refine Later.setCell ?_ (by simp) _) | (with_reducible refine Later.drewN ?_ _) | (with_reducible refine Later.drew ?_) | (with_reducible refine Later.trans ?_ (Hid.out (by assumption)))))⟩
  · have b2 : slL x = 0 := by unfold slL okV; rw [if_neg h]
    have b3 : slH x = 0 := by unfold slH okV; rw [if_neg h]
    have e1 : Hid (gsV x = 0) := Lib.hid (by unfold gsV okV; rw [if_neg h])
    have e0 : Hid (slE x = slE x) := Lib.hid rfl
    rw [b2, b3] at HB
    generalize slE x = q at *
    have hne : (q != 0) = true := by simpa using h
    clear h b2 b3
    go_enter Try.func47, Try.ntmps47
    go_wp2_with (go_at_call 85; refine (HB _).mono ?_; rintro e w1 ⟨rfl, hb⟩; obtain ⟨H, hcc, hff, hzz⟩ := later_facts hb; clear hb; (try simp at hzz); (try simp only [World.heap_drewN, World.cell?_drewN, World.frozen?_drewN] at hcc hff); have hz0 : w.heap.size < w1.heap.size := (by omega); (try (have hz1 : w.heap.size + 1 < w1.heap.size := (by omega))); (try (have hz2 : w.heap.size + 1 + 1 < w1.heap.size := (by omega))); (try (have hz3 : w.heap.size + 1 + 1 + 1 < w1.heap.size := (by omega))); (try (have hz4 : w.heap.size + 1 + 1 + 1 + 1 < w1.heap.size := (by omega))))
    go_ret2
    exact ⟨ret_2i e1.out.symm rfl, (by repeat (first | (with_reducible exact Later.refl _) | (with_reducible exact Hid.out (by assumption)) | (with_reducible refine Later.alloc ?_ _) | (with_reducible refine Later.setCell ?_ (by simp; omega) _) | (with_reducible refine Later.setCell ?_ (by simp) _) | (with_reducible refine Later.drewN ?_ _) | (with_reducible refine Later.drew ?_) | (with_reducible refine Later.trans ?_ (Hid.out (by assumption)))))⟩
theorem i_StoppingDistance (x : Sg) (a b : Int) (w : World) :
    Calls Try.prog 41 #[.agg #[.int .i64 x.k, .int .i64 x.l, .int .i64 x.r, .int .i64 x.a, .int .i64 x.b, .int .i64 x.c, .int .i64 x.d], .agg #[.int .i64 a, .int .i64 b]] w fun e w' => e = .returned (.tuple #[.agg #[.int .i64 (dsL x a b), .int .i64 (dsH x a b)], .int .i64 (dsE x a b)]) ∧ Later w w' := by
  have HB := fun w => i_slowingWork x w
  cases h1 : enB a b
  · have e1 : dsE x a b = 1 := by unfold dsE; rw [h1]; rfl
    have e2 : dsL x a b = 0 := by unfold dsL; rw [e1]; rfl
    have e3 : dsH x a b = 0 := by unfold dsH; rw [e1]; rfl
    rw [e1, e2, e3]
    clear e1 e2 e3
    go_enter Try.func41, Try.ntmps41
    go_wp2_with (first | (go_at_call 64; refine (i_IsEnergy _ _ _).mono ?_; rintro e w1 ⟨rfl, hb⟩; obtain ⟨H, hcc, hff, hzz⟩ := later_facts hb; clear hb; (try simp at hzz); (try simp only [World.heap_drewN, World.cell?_drewN, World.frozen?_drewN] at hcc hff); have hz0 : w.heap.size < w1.heap.size := (by omega); (try (have hz1 : w.heap.size + 1 < w1.heap.size := (by omega))); (try (have hz2 : w.heap.size + 1 + 1 < w1.heap.size := (by omega))); (try (have hz3 : w.heap.size + 1 + 1 + 1 < w1.heap.size := (by omega))); (try (have hz4 : w.heap.size + 1 + 1 + 1 + 1 < w1.heap.size := (by omega)))))
    refine bodyPost_ret (v := .tuple #[.agg #[.int .i64 0, .int .i64 0], .int .i64 1]) (by simp [results, Try.results41, go_sem, *]) rfl ⟨rfl, (by repeat (first | (with_reducible exact Later.refl _) | (with_reducible exact Hid.out (by assumption)) | (with_reducible refine Later.alloc ?_ _) | (with_reducible refine Later.setCell ?_ (by simp; omega) _) | (with_reducible refine Later.setCell ?_ (by simp) _) | (with_reducible refine Later.drewN ?_ _) | (with_reducible refine Later.drew ?_) | (with_reducible refine Later.trans ?_ (Hid.out (by assumption)))))⟩
  · have e1 : dsE x a b = slE x := by unfold dsE; rw [h1]; rfl
    by_cases h : slE x = 0
    · have b2 : slL x = wkL x := by unfold slL; rw [h]; rfl
      have b3 : slH x = wkH x := by unfold slH; rw [h]; rfl
      obtain ⟨s1, s2, s3⟩ := slE_ok h
      obtain ⟨u1, u2, u3⟩ := (enB_iff a b).1 h1
      have hw := wk_bd x s1
      have hl := ((sgB_iff x).1 s1).2.1
      have m1 := nn_mul a x.l (by omega) (by omega) hl.1 hl.2
      have m2 := nn_mul b x.l (by omega) (by omega) hl.1 hl.2
      have e2 : dsL x a b = flo (a * x.l) (wkH x) := by unfold dsL; rw [e1, h]; rfl
      have e3 : dsH x a b = cei (b * x.l) (wkL x) := by unfold dsH; rw [e1, h]; rfl
      rw [e1, h, e2, e3]
      rw [h, b2, b3] at HB
      clear e1 e2 e3 h b2 b3 s1 s2
      generalize wkL x = p at *
      generalize wkH x = q at *
      obtain ⟨hw1, hw2, hw3⟩ := hw
      obtain ⟨l1, l2⟩ := hl
      have HT := fun w => i_times_nn a b x.l w (by omega) (by omega) (by omega) (by omega) (by omega)
      obtain ⟨A, hA⟩ : ∃ A, A = a * x.l := ⟨_, rfl⟩
      obtain ⟨B, hB⟩ : ∃ B, B = b * x.l := ⟨_, rfl⟩
      rw [← hA] at m1 HT; rw [← hB] at m2 HT
      rw [← hA, ← hB]
      have HO := fun w => i_over A B p q w (by omega) (by omega) (by omega) (by omega) (by omega) (by omega) (by omega) (by omega)
      generalize flo A q = fA at *
      generalize cei B p = cB at *
      clear hA hB u1 u2 u3 m1 m2
      go_enter Try.func41, Try.ntmps41
      go_upto_region 1 with (fail)
      refine into (fun W => Held [(w.heap.size + 1, 0, .int .i64 a), (w.heap.size + 1, 1, .int .i64 b), (w.heap.size, 0, .int .i64 x.k), (w.heap.size, 1, .int .i64 x.l), (w.heap.size, 2, .int .i64 x.r), (w.heap.size, 3, .int .i64 x.a), (w.heap.size, 4, .int .i64 x.b), (w.heap.size, 5, .int .i64 x.c), (w.heap.size, 6, .int .i64 x.d)] w W ∧ Fr (w.heap.size + 1 + 1) [.int .i64 0, .int .i64 0] W) ⟨?_, ?_⟩ ?_
      · exact (held_box (held_box (held_start w) w.heap.size [.int .i64 x.k, .int .i64 x.l, .int .i64 x.r, .int .i64 x.a, .int .i64 x.b, .int .i64 x.c, .int .i64 x.d] _ rfl) (w.heap.size + 1) [.int .i64 a, .int .i64 b] _ (by simp)).alloc _
      · have F := fr_alloc (X := (w.alloc (.cells [.int .i64 x.k, .int .i64 x.l, .int .i64 x.r, .int .i64 x.a, .int .i64 x.b, .int .i64 x.c, .int .i64 x.d].toArray 27)).alloc (.cells [Value.int .i64 a, .int .i64 b].toArray 25)) (l := [.int .i64 0, .int .i64 0]) (T := 25) (Later.refl _)
        simp only [World.size_alloc] at F
        exact F
      rintro W ⟨hW, hF⟩
      obtain ⟨p7, p8, p0, p1, p2, p3, p4, p5, p6, _⟩ := Held.s9 hW
      obtain ⟨r0, r1, r2, r3⟩ := Fr.o2 hF
      have z0 := hW.lt w.heap.size 0 (.int .i64 x.k) (by simp)
      have z1 := hW.lt (w.heap.size + 1) 0 (.int .i64 a) (by simp)
      have z2 := hF.lt
      have HW := Lib.hid (Held.is hW)
      go_wp2_with (first | (go_at_call 64; refine (i_IsEnergy _ _ _).mono ?_; rintro e w1 ⟨rfl, hb⟩; obtain ⟨H, hcc, hff, hzz⟩ := later_facts hb; clear hb; (try simp at hzz); (try simp only [World.heap_drewN, World.cell?_drewN, World.frozen?_drewN] at hcc hff); have hz0 : w.heap.size < w1.heap.size := (by omega); (try (have hz1 : w.heap.size + 1 < w1.heap.size := (by omega))); (try (have hz2 : w.heap.size + 1 + 1 < w1.heap.size := (by omega))); (try (have hz3 : w.heap.size + 1 + 1 + 1 < w1.heap.size := (by omega))); (try (have hz4 : w.heap.size + 1 + 1 + 1 + 1 < w1.heap.size := (by omega)))) | (go_at_call 85; refine (HB _).mono ?_; rintro e w7 ⟨rfl, hb⟩; have H7 : Hid (Later W w7) := Lib.hid (Later.trans (by repeat (first | (with_reducible exact Later.refl _) | (with_reducible exact Hid.out (by assumption)) | (with_reducible refine Later.alloc ?_ _) | (with_reducible refine Later.setCell ?_ (by simp; omega) _) | (with_reducible refine Later.setCell ?_ (by simp) _) | (with_reducible refine Later.drewN ?_ _) | (with_reducible refine Later.drew ?_) | (with_reducible refine Later.trans ?_ (Hid.out (by assumption))))) hb); obtain ⟨H, hcc, hff, hzz⟩ := later_facts hb; clear hb))
      have hgz : w.heap.size + 1 + 1 < w7.heap.size := by have := H7.out.size; omega
      refine into (fun W => Held ((w7.heap.size, 0, .int .i64 p) :: (w7.heap.size, 1, .int .i64 q) :: [(w.heap.size + 1, 0, .int .i64 a), (w.heap.size + 1, 1, .int .i64 b), (w.heap.size, 0, .int .i64 x.k), (w.heap.size, 1, .int .i64 x.l), (w.heap.size, 2, .int .i64 x.r), (w.heap.size, 3, .int .i64 x.a), (w.heap.size, 4, .int .i64 x.b), (w.heap.size, 5, .int .i64 x.c), (w.heap.size, 6, .int .i64 x.d)]) w W ∧ Fr (w.heap.size + 1 + 1) [.int .i64 0, .int .i64 0] W) ⟨held_box (Held.later hW (by repeat (first | exact H7.out | refine Later.drew ?_ | refine Later.drewN ?_ _))) w7.heap.size [.int .i64 p, .int .i64 q] _ rfl, fr_later hF ((by repeat (first | exact H7.out | refine Later.alloc ?_ _ | refine Later.drew ?_ | refine Later.drewN ?_ _)))⟩ ?_
      clear p0 p1 p2 p3 p4 p5 p6 p7 p8 r0 r1 r2 r3 hcc hff hzz H
      rintro W' ⟨hW, F⟩
      clear hF
      have hW : Held [(w7.heap.size, 0, .int .i64 p), (w7.heap.size, 1, .int .i64 q), (w.heap.size + 1, 0, .int .i64 a), (w.heap.size + 1, 1, .int .i64 b), (w.heap.size, 1, .int .i64 x.l)] w W' := ⟨fun x hx => hW.1 x (by simp at hx ⊢; rcases hx with rfl | rfl | rfl | rfl | rfl <;> simp), hW.2⟩
      obtain ⟨r0, r1, r2, r3⟩ := Fr.o2 F
      have z3 := hW.lt w7.heap.size 0 (.int .i64 p) (by simp)
      have ne1 : ¬ w7.heap.size = w.heap.size + 1 + 1 := by omega
      have ne2 : ¬ w.heap.size + 1 + 1 = w7.heap.size := by omega
      have hls : ∀ y ∈ [(w7.heap.size, 0, Value.int .i64 p), (w7.heap.size, 1, Value.int .i64 q), (w.heap.size + 1, 0, Value.int .i64 a), (w.heap.size + 1, 1, Value.int .i64 b), (w.heap.size, 1, Value.int .i64 x.l)], y.1 ≠ w.heap.size + 1 + 1 := by
        intro y hx; simp at hx; rcases hx with rfl | rfl | rfl | rfl | rfl <;> simp <;> omega
      go_region_held3 (fun w' => w'.cell? ⟨w7.heap.size, 0, none⟩ = some (.int .i64 p) ∧ w'.cell? ⟨w7.heap.size, 1, none⟩ = some (.int .i64 q) ∧ w'.cell? ⟨w.heap.size + 1, 0, none⟩ = some (.int .i64 a) ∧ w'.cell? ⟨w.heap.size + 1, 1, none⟩ = some (.int .i64 b) ∧ w'.cell? ⟨w.heap.size, 1, none⟩ = some (.int .i64 x.l) ∧ Held [(w7.heap.size, 0, .int .i64 p), (w7.heap.size, 1, .int .i64 q), (w.heap.size + 1, 0, .int .i64 a), (w.heap.size + 1, 1, .int .i64 b), (w.heap.size, 1, .int .i64 x.l)] w w') ((refine Held.s5 ?_; (repeat (first | refine Held.drew ?_ | refine Held.drewN ?_ _ | refine Held.setNe ?_ _ _ hls (by simp <;> omega))); refine Held.later hW ?_; repeat (first | exact Later.refl _ | refine Later.drew ?_ | refine Later.drewN ?_ _ | refine Later.alloc ?_ _ | refine Later.trans ?_ (Hid.out (by assumption)))))
        (first | (go_at_call 73; refine (HT _).mono ?_; rintro e w1 ⟨rfl, hb⟩; have H := Lib.hid hb; (first | (have F := fr_later F hb; obtain ⟨f1, f2, f3, f4⟩ := Fr.o2 F) | (have F := fr_later F (later_undrew hb); obtain ⟨f1, f2, f3, f4⟩ := Fr.o2 F) | (have F := fr_later F (later_undrewN hb); obtain ⟨f1, f2, f3, f4⟩ := Fr.o2 F)); clear hb) | (go_at_call 74; refine (HO _).mono ?_; rintro e w1 ⟨rfl, hb⟩; have H := Lib.hid hb; (first | (have F := fr_later F hb; obtain ⟨f1, f2, f3, f4⟩ := Fr.o2 F) | (have F := fr_later F (later_undrew hb); obtain ⟨f1, f2, f3, f4⟩ := Fr.o2 F) | (have F := fr_later F (later_undrewN hb); obtain ⟨f1, f2, f3, f4⟩ := Fr.o2 F)); clear hb))
      all_goals
        go_wp2_with fail
        refine bodyPost_ret (v := .tuple #[.agg #[.int .i64 fA, .int .i64 cB], .int .i64 0]) (by simp [results, Try.results41, go_sem, *]) rfl ⟨rfl, Later.setCell (Later.setCell (Later.trans (Held.is hW) (by (repeat (first | exact Later.refl _ | refine Later.drew ?_ | refine Later.drewN ?_ _ | refine Later.alloc ?_ _ | refine Later.trans ?_ (Hid.out (by assumption)))); done)) (by simp <;> omega) _) (by simp <;> omega) _⟩
    · have b2 : slL x = 0 := by unfold slL okV; rw [if_neg h]
      have b3 : slH x = 0 := by unfold slH okV; rw [if_neg h]
      have e2 : dsL x a b = 0 := by unfold dsL okV; rw [e1, if_neg h]
      have e3 : dsH x a b = 0 := by unfold dsH okV; rw [e1, if_neg h]
      rw [e1, e2, e3]
      rw [b2, b3] at HB
      generalize slE x = q at *
      have hne : (q != 0) = true := by simpa using h
      clear h b2 b3 e1 e2 e3
      go_enter Try.func41, Try.ntmps41
      go_wp2_with (first | (go_at_call 64; refine (i_IsEnergy _ _ _).mono ?_; rintro e w1 ⟨rfl, hb⟩; obtain ⟨H, hcc, hff, hzz⟩ := later_facts hb; clear hb; (try simp at hzz); (try simp only [World.heap_drewN, World.cell?_drewN, World.frozen?_drewN] at hcc hff); have hz0 : w.heap.size < w1.heap.size := (by omega); (try (have hz1 : w.heap.size + 1 < w1.heap.size := (by omega))); (try (have hz2 : w.heap.size + 1 + 1 < w1.heap.size := (by omega))); (try (have hz3 : w.heap.size + 1 + 1 + 1 < w1.heap.size := (by omega))); (try (have hz4 : w.heap.size + 1 + 1 + 1 + 1 < w1.heap.size := (by omega)))) | (go_at_call 85; refine (HB _).mono ?_; rintro e w1 ⟨rfl, hb⟩; obtain ⟨H, hcc, hff, hzz⟩ := later_facts hb; clear hb; (try simp at hzz); (try simp only [World.heap_drewN, World.cell?_drewN, World.frozen?_drewN] at hcc hff); have hz0 : w.heap.size < w1.heap.size := (by omega); (try (have hz1 : w.heap.size + 1 < w1.heap.size := (by omega))); (try (have hz2 : w.heap.size + 1 + 1 < w1.heap.size := (by omega))); (try (have hz3 : w.heap.size + 1 + 1 + 1 < w1.heap.size := (by omega))); (try (have hz4 : w.heap.size + 1 + 1 + 1 + 1 < w1.heap.size := (by omega)))))
      refine bodyPost_ret (v := .tuple #[.agg #[.int .i64 0, .int .i64 0], .int .i64 q]) (by simp [results, Try.results41, go_sem, *]) rfl ⟨rfl, (by repeat (first | (with_reducible exact Later.refl _) | (with_reducible exact Hid.out (by assumption)) | (with_reducible refine Later.alloc ?_ _) | (with_reducible refine Later.setCell ?_ (by simp; omega) _) | (with_reducible refine Later.setCell ?_ (by simp) _) | (with_reducible refine Later.drewN ?_ _) | (with_reducible refine Later.drew ?_) | (with_reducible refine Later.trans ?_ (Hid.out (by assumption)))))⟩
end Go.Proofs.Ytdhoiiejcmnmbaa
namespace Go.Proofs.Ytdhoiiejcmnmbaa
open Go.RowKit
set_option maxHeartbeats 4000000
set_option linter.unusedVariables false
set_option linter.unusedSimpArgs false
end Go.Proofs.Ytdhoiiejcmnmbaa
namespace Go.Proofs.Ytdhoiiejcmnmbaa
open Go.RowKit
set_option maxHeartbeats 2000000
set_option linter.unusedVariables false
set_option linter.unusedSimpArgs false
theorem l_toInterval (a b : Int) (w : World) : Calls Try.prog 38 #[.agg #[.int .i64 a, .int .i64 b]] w fun e w' => e = .returned (.agg #[.int .i64 a, .int .i64 b]) ∧ Later w w' := by
  go_enter Try.func38, Try.ntmps38
  go_wp2
  refine bodyPost_ret (v := .agg #[.int .i64 a, .int .i64 b]) (by simp [results, Try.results38, go_sem]) rfl ⟨rfl, ?_⟩
  exact (((Later.refl _).alloc _).alloc _).alloc _
theorem l_eqInterval (a b c d : Int) (w : World) : Calls Try.prog 39 #[.agg #[.int .i64 a, .int .i64 b], .agg #[.int .i64 c, .int .i64 d]] w fun e w' => e = .returned (.bool (a == c && b == d)) ∧ Later w w' := by
  go_enter Try.func39, Try.ntmps39
  go_wp2
  all_goals
    go_ret
    exact ⟨ret_b (by simp_all), ((Later.refl _).alloc _).alloc _⟩
end Go.Proofs.Ytdhoiiejcmnmbaa
namespace Go.Proofs.Ytdhoiiejcmnmbaa
open Go.RowKit
set_option maxHeartbeats 2000000
set_option linter.unusedVariables false
set_option linter.unusedSimpArgs false
theorem l_toSegment (x : Sg) (w : World) : Calls Try.prog 37 #[.agg #[.int .i64 x.k, .int .i64 x.l, .int .i64 x.r, .int .i64 x.a, .int .i64 x.b, .int .i64 x.c, .int .i64 x.d]] w fun e w' => e = .returned (.agg #[.int .i64 x.k, .int .i64 x.l, .int .i64 x.r, .int .i64 x.a, .int .i64 x.b, .int .i64 x.c, .int .i64 x.d]) ∧ Later w w' := by
  go_enter Try.func37, Try.ntmps37
  go_wp2_with (go_at_call 38; refine (l_toInterval _ _ _).mono ?_; rintro e w1 ⟨rfl, hb⟩; obtain ⟨H, hcc, hff, hzz⟩ := later_facts hb; clear hb; (try simp at hzz); (try simp only [World.heap_drewN, World.cell?_drewN, World.frozen?_drewN] at hcc hff); have hz0 : w.heap.size < w1.heap.size := (by omega); (try (have hz1 : w.heap.size + 1 < w1.heap.size := (by omega))); (try (have hz2 : w.heap.size + 1 + 1 < w1.heap.size := (by omega))))
  refine bodyPost_ret (v := .agg #[.int .i64 x.k, .int .i64 x.l, .int .i64 x.r, .int .i64 x.a, .int .i64 x.b, .int .i64 x.c, .int .i64 x.d]) (by simp [results, Try.results37, go_sem, *]) rfl ⟨rfl, ?_⟩
  exact (by repeat (first | (with_reducible exact Later.refl _) | (with_reducible exact Hid.out (by assumption)) | (with_reducible refine Later.setCell ?_ (by simp; omega) _) | (with_reducible refine Later.setCell ?_ (by simp) _) | (with_reducible refine Later.alloc ?_ _) | (with_reducible refine Later.drewN ?_ _) | (with_reducible refine Later.drew ?_) | (with_reducible refine Later.trans ?_ (Hid.out (by assumption)))))
theorem l_eqSegment (x y : Sg) (w : World) : Calls Try.prog 109 #[.agg #[.int .i64 x.k, .int .i64 x.l, .int .i64 x.r, .int .i64 x.a, .int .i64 x.b, .int .i64 x.c, .int .i64 x.d], .agg #[.int .i64 y.k, .int .i64 y.l, .int .i64 y.r, .int .i64 y.a, .int .i64 y.b, .int .i64 y.c, .int .i64 y.d]] w fun e w' => e = .returned (.bool (eqB x y)) ∧ Later w w' := by
  have key : ∀ p q r s t : Bool, (x.k == y.k) = p → (x.l == y.l) = q → (x.r == y.r) = r → (x.a == y.a && x.b == y.b) = s → (x.c == y.c && x.d == y.d) = t → Hid (eqB x y = (p && q && r && s && t)) := by
    rintro p q r s t rfl rfl rfl rfl rfl; exact Lib.hid rfl
  cases h1 : (x.k == y.k)
  · have K := key _ _ _ _ _ h1 rfl rfl rfl rfl
    have e1 : (x.k != y.k) = true := by simp [bne, h1]
    clear key h1
    go_enter Try.func109, Try.ntmps109
    go_wp2
    go_ret
    exact ⟨ret_b (by rw [K.out]; simp), (by repeat (first | (with_reducible exact Later.refl _) | (with_reducible exact Hid.out (by assumption)) | (with_reducible refine Later.setCell ?_ (by simp; omega) _) | (with_reducible refine Later.setCell ?_ (by simp) _) | (with_reducible refine Later.alloc ?_ _) | (with_reducible refine Later.drewN ?_ _) | (with_reducible refine Later.drew ?_) | (with_reducible refine Later.trans ?_ (Hid.out (by assumption)))))⟩
  · have e1 : (x.k != y.k) = false := by simp [bne, h1]
    cases h2 : (x.l == y.l)
    · have K := key _ _ _ _ _ h1 h2 rfl rfl rfl
      have e2 : (x.l != y.l) = true := by simp [bne, h2]
      clear key h1 h2
      go_enter Try.func109, Try.ntmps109
      go_wp2
      go_ret
      exact ⟨ret_b (by rw [K.out]; simp), (by repeat (first | (with_reducible exact Later.refl _) | (with_reducible exact Hid.out (by assumption)) | (with_reducible refine Later.setCell ?_ (by simp; omega) _) | (with_reducible refine Later.setCell ?_ (by simp) _) | (with_reducible refine Later.alloc ?_ _) | (with_reducible refine Later.drewN ?_ _) | (with_reducible refine Later.drew ?_) | (with_reducible refine Later.trans ?_ (Hid.out (by assumption)))))⟩
    · have e2 : (x.l != y.l) = false := by simp [bne, h2]
      cases h3 : (x.r == y.r)
      · have K := key _ _ _ _ _ h1 h2 h3 rfl rfl
        have e3 : (x.r != y.r) = true := by simp [bne, h3]
        clear key h1 h2 h3
        go_enter Try.func109, Try.ntmps109
        go_wp2
        go_ret
        exact ⟨ret_b (by rw [K.out]; simp), (by repeat (first | (with_reducible exact Later.refl _) | (with_reducible exact Hid.out (by assumption)) | (with_reducible refine Later.setCell ?_ (by simp; omega) _) | (with_reducible refine Later.setCell ?_ (by simp) _) | (with_reducible refine Later.alloc ?_ _) | (with_reducible refine Later.drewN ?_ _) | (with_reducible refine Later.drew ?_) | (with_reducible refine Later.trans ?_ (Hid.out (by assumption)))))⟩
      · have e3 : (x.r != y.r) = false := by simp [bne, h3]
        cases h4 : (x.a == y.a && x.b == y.b) <;> cases h5 : (x.c == y.c && x.d == y.d)
        all_goals
          have K := key _ _ _ _ _ h1 h2 h3 h4 h5
          have H4 := Lib.hid h4; have H5 := Lib.hid h5
          clear key h1 h2 h3 h4 h5
          go_enter Try.func109, Try.ntmps109
          go_wp2_with (go_at_call 39; refine (l_eqInterval _ _ _ _ _).mono ?_; (try rw [H4.out]); (try rw [H5.out]); rintro e w1 ⟨rfl, hb⟩; obtain ⟨H, hcc, hff, hzz⟩ := later_facts hb; clear hb; (try simp at hzz); (try simp only [World.heap_drewN, World.cell?_drewN, World.frozen?_drewN] at hcc hff); have hz0 : w.heap.size < w1.heap.size := (by omega); (try (have hz1 : w.heap.size + 1 < w1.heap.size := (by omega))); (try (have hz2 : w.heap.size + 1 + 1 < w1.heap.size := (by omega))))
          go_ret
          exact ⟨ret_b (by rw [K.out]; rfl), (by repeat (first | (with_reducible exact Later.refl _) | (with_reducible exact Hid.out (by assumption)) | (with_reducible refine Later.setCell ?_ (by simp; omega) _) | (with_reducible refine Later.setCell ?_ (by simp) _) | (with_reducible refine Later.alloc ?_ _) | (with_reducible refine Later.drewN ?_ _) | (with_reducible refine Later.drew ?_) | (with_reducible refine Later.trans ?_ (Hid.out (by assumption)))))⟩
end Go.Proofs.Ytdhoiiejcmnmbaa
namespace Go.Proofs.Ytdhoiiejcmnmbaa
open Go.RowKit
set_option maxHeartbeats 2000000
set_option linter.unusedVariables false
set_option linter.unusedSimpArgs false
theorem later_id {w w' : World} (h : Later w w') : Hid (Later w w') := Lib.hid h
theorem SgAt.later {w w' : World} {b o : Nat} {x : Sg} (h : SgAt w b o x) (k : Later w w') : SgAt w' b o x := by
  obtain ⟨h0, h1, h2, h3, h4, h5, h6⟩ := h
  have hb := sg_cell_lt h0
  refine ⟨?_, ?_, ?_, ?_, ?_, ?_, ?_⟩
  · rw [k.cell (p := ⟨b, o, none⟩) hb]; exact h0
  · rw [k.cell (p := ⟨b, o + 1, none⟩) hb]; exact h1
  · rw [k.cell (p := ⟨b, o + 2, none⟩) hb]; exact h2
  · rw [k.cell (p := ⟨b, o + 3, none⟩) hb]; exact h3
  · rw [k.cell (p := ⟨b, o + 4, none⟩) hb]; exact h4
  · rw [k.cell (p := ⟨b, o + 5, none⟩) hb]; exact h5
  · rw [k.cell (p := ⟨b, o + 6, none⟩) hb]; exact h6
theorem sg14 {w : World} {b o b' o' : Nat} {x y : Sg} (h : SgAt w b o x) (k : SgAt w b' o' y) : w.cell? ⟨b, o, none⟩ = some (.int .i64 x.k) ∧ w.cell? ⟨b, o + 1, none⟩ = some (.int .i64 x.l) ∧ w.cell? ⟨b, o + 2, none⟩ = some (.int .i64 x.r) ∧ w.cell? ⟨b, o + 3, none⟩ = some (.int .i64 x.a) ∧ w.cell? ⟨b, o + 4, none⟩ = some (.int .i64 x.b) ∧ w.cell? ⟨b, o + 5, none⟩ = some (.int .i64 x.c) ∧ w.cell? ⟨b, o + 6, none⟩ = some (.int .i64 x.d) ∧ w.cell? ⟨b', o', none⟩ = some (.int .i64 y.k) ∧ w.cell? ⟨b', o' + 1, none⟩ = some (.int .i64 y.l) ∧ w.cell? ⟨b', o' + 2, none⟩ = some (.int .i64 y.r) ∧ w.cell? ⟨b', o' + 3, none⟩ = some (.int .i64 y.a) ∧ w.cell? ⟨b', o' + 4, none⟩ = some (.int .i64 y.b) ∧ w.cell? ⟨b', o' + 5, none⟩ = some (.int .i64 y.c) ∧ w.cell? ⟨b', o' + 6, none⟩ = some (.int .i64 y.d) :=
  ⟨h.1, h.2.1, h.2.2.1, h.2.2.2.1, h.2.2.2.2.1, h.2.2.2.2.2.1, h.2.2.2.2.2.2, k⟩
/-- two lists of segments are equal -/
def eqsB (L M : List Sg) : Bool := decide (L.length = M.length) && (List.range L.length).all fun k => eqB (sx L k) (sx M k)
theorem eqsB_same (L : List Sg) : eqsB L L = true := by
  unfold eqsB
  simp [eqB_iff]
theorem l_eqSegmentS_same (a a' : Option Addr) (n cap n' cap' : Nat) (L : List Sg) (w : World) (hs : Sgs w a n L) (ht : Sgs w a' n' L) :
    Calls Try.prog 83 #[.slice a n cap, .slice a' n' cap'] w fun e w' => e = .returned (.bool true) ∧ Later w w' := by
  obtain rfl : n = n' := by rw [← hs.1, ← ht.1]
  have HS := Lib.hid hs
  have HT := Lib.hid ht
  have hn := hs.2.1
  clear hs ht
  have e0 : ((n : Int) != (n : Int)) = false := by simp
  go_enter Try.func83, Try.ntmps83
  go_wp2
  go_loopw [5] (fun i wr => ∃ k : Nat, k ≤ n ∧ i = .int .i64 k ∧ Later w wr) (fun i _ => n - (intOf i).toNat)
  case atStart => exact ⟨0, by omega, rfl, Later.refl _⟩
  case round =>
    obtain ⟨k, hk, rfl, hlw⟩ := hrel
    have HW := Lib.hid hlw
    clear hlw
    by_cases hlt : k < n
    · obtain ⟨b, off, rfl, hb, hc⟩ := (HS.out.later HW.out).at k hlt
      obtain ⟨b', off', rfl, hb', hc'⟩ := (HT.out.later HW.out).at k hlt
      have C := Lib.hid hc; have C' := Lib.hid hc'
      obtain ⟨c0, c1, c2, c3, c4, c5, c6⟩ := hc
      obtain ⟨d0, d1, d2, d3, d4, d5, d6⟩ := hc'
      go_wp2_with fail
      go_region_held3 (fun w' => w'.cell? ⟨b, off + k * 7, none⟩ = some (.int .i64 (sx L k).k) ∧ w'.cell? ⟨b, off + k * 7 + 1, none⟩ = some (.int .i64 (sx L k).l) ∧ w'.cell? ⟨b, off + k * 7 + 2, none⟩ = some (.int .i64 (sx L k).r) ∧ w'.cell? ⟨b, off + k * 7 + 3, none⟩ = some (.int .i64 (sx L k).a) ∧ w'.cell? ⟨b, off + k * 7 + 4, none⟩ = some (.int .i64 (sx L k).b) ∧ w'.cell? ⟨b, off + k * 7 + 5, none⟩ = some (.int .i64 (sx L k).c) ∧ w'.cell? ⟨b, off + k * 7 + 6, none⟩ = some (.int .i64 (sx L k).d) ∧ w'.cell? ⟨b', off' + k * 7, none⟩ = some (.int .i64 (sx L k).k) ∧ w'.cell? ⟨b', off' + k * 7 + 1, none⟩ = some (.int .i64 (sx L k).l) ∧ w'.cell? ⟨b', off' + k * 7 + 2, none⟩ = some (.int .i64 (sx L k).r) ∧ w'.cell? ⟨b', off' + k * 7 + 3, none⟩ = some (.int .i64 (sx L k).a) ∧ w'.cell? ⟨b', off' + k * 7 + 4, none⟩ = some (.int .i64 (sx L k).b) ∧ w'.cell? ⟨b', off' + k * 7 + 5, none⟩ = some (.int .i64 (sx L k).c) ∧ w'.cell? ⟨b', off' + k * 7 + 6, none⟩ = some (.int .i64 (sx L k).d)) (exact sg14 (C.out.later (by repeat (first | (with_reducible exact Later.refl _) | (with_reducible refine Later.alloc ?_ _) | (with_reducible refine Later.drewN ?_ _) | (with_reducible refine Later.drew ?_) | (with_reducible refine Later.trans ?_ (Hid.out (by assumption)))))) (C'.out.later (by repeat (first | (with_reducible exact Later.refl _) | (with_reducible refine Later.alloc ?_ _) | (with_reducible refine Later.drewN ?_ _) | (with_reducible refine Later.drew ?_) | (with_reducible refine Later.trans ?_ (Hid.out (by assumption)))))))
        (first | (go_at_call 109; refine (l_eqSegment (sx L k) (sx L k) _).mono ?_; rw [(eqB_iff _ _).2 rfl]; rintro e w1 ⟨rfl, hb1⟩; have H1 := Lib.hid hb1; clear hb1))
      all_goals
        go_wp2
        go_roundw
        case rel => exact ⟨k + 1, by omega, by go_num, (by repeat (first | (with_reducible exact Later.refl _) | (with_reducible exact Hid.out (by assumption)) | (with_reducible refine Later.alloc ?_ _) | (with_reducible refine Later.drewN ?_ _) | (with_reducible refine Later.drew ?_) | (with_reducible refine Later.trans ?_ (Hid.out (by assumption)))))⟩
        case measure => simp [intOf]; omega
    · obtain rfl : k = n := by omega
      go_wp2
      go_ret
      exact ⟨rfl, HW.out⟩
theorem l_eqLayout_same (a a' : Option Addr) (n cap n' cap' : Nat) (L : List Sg) (w : World) (hs : Sgs w a n L) (ht : Sgs w a' n' L) :
    Calls Try.prog 35 #[.agg #[.slice a n cap], .agg #[.slice a' n' cap']] w fun e w' => e = .returned (.bool true) ∧ Later w w' := by
  have HS := Lib.hid hs; have HT := Lib.hid ht
  clear hs ht
  go_enter Try.func35, Try.ntmps35
  go_wp2_with (go_at_call 83; refine (l_eqSegmentS_same a a' n cap n' cap' L _ (HS.out.later (by repeat (first | (with_reducible exact Later.refl _) | (with_reducible exact Hid.out (by assumption)) | (with_reducible refine Later.alloc ?_ _) | (with_reducible refine Later.drewN ?_ _) | (with_reducible refine Later.drew ?_) | (with_reducible refine Later.trans ?_ (Hid.out (by assumption)))))) (HT.out.later (by repeat (first | (with_reducible exact Later.refl _) | (with_reducible exact Hid.out (by assumption)) | (with_reducible refine Later.alloc ?_ _) | (with_reducible refine Later.drewN ?_ _) | (with_reducible refine Later.drew ?_) | (with_reducible refine Later.trans ?_ (Hid.out (by assumption))))))).mono ?_; rintro e w1 ⟨rfl, hb1⟩; have H1 := Lib.hid hb1; clear hb1)
  go_ret
  exact ⟨rfl, (by repeat (first | (with_reducible exact Later.refl _) | (with_reducible exact Hid.out (by assumption)) | (with_reducible refine Later.alloc ?_ _) | (with_reducible refine Later.drewN ?_ _) | (with_reducible refine Later.drew ?_) | (with_reducible refine Later.trans ?_ (Hid.out (by assumption)))))⟩
/-- what is left of a bound on the length, or -1 -/
def szI (m : Int) (n : Nat) : Int := if m - n < 0 then -1 else m - n
theorem l_szSegmentS (a : Option Addr) (n cap : Nat) (w : World) (hn : n ≤ 9223372036854775807) :
    Calls Try.prog 77 #[.slice a n cap, .int .i64 1048576] w fun e w' => e = .returned (.int .i64 (szI 1048576 n)) ∧ w = w' := by
  by_cases h : 1048576 < n
  · have e1 : Hid (szI 1048576 n = -1) := Lib.hid (by unfold szI; rw [if_pos (by omega)])
    go_enter Try.func77, Try.ntmps77
    go_wp2
    go_ret
    exact ⟨ret_i64 (by rw [e1.out]), rfl⟩
  · have e1 : Hid (szI 1048576 n = 1048576 - n) := Lib.hid (by unfold szI; rw [if_neg (by omega)])
    have h : n ≤ 1048576 := by omega
    go_enter Try.func77, Try.ntmps77
    go_wp2
    go_ret
    exact ⟨ret_i64 (by rw [e1.out]), rfl⟩
theorem l_szLayout (a : Option Addr) (n cap : Nat) (w : World) (hn : n ≤ 9223372036854775807) :
    Calls Try.prog 30 #[.agg #[.slice a n cap], .int .i64 1048576] w fun e w' => e = .returned (.int .i64 (szI 1048576 n)) ∧ Later w w' := by
  by_cases h : 1048576 < n
  · have e1 : Hid (szI 1048576 n = -1) := Lib.hid (by unfold szI; rw [if_pos (by omega)])
    go_enter Try.func30, Try.ntmps30
    go_wp2_with (go_at_call 77; refine (l_szSegmentS a n cap _ hn).mono ?_; rw [e1.out]; rintro e w' ⟨rfl, rfl⟩)
    go_ret
    exact ⟨ret_i64 (by rw [e1.out]), (by repeat (first | (with_reducible exact Later.refl _) | (with_reducible exact Hid.out (by assumption)) | (with_reducible refine Later.alloc ?_ _) | (with_reducible refine Later.drewN ?_ _) | (with_reducible refine Later.drew ?_) | (with_reducible refine Later.trans ?_ (Hid.out (by assumption)))))⟩
  · have e1 : Hid (szI 1048576 n = 1048576 - n) := Lib.hid (by unfold szI; rw [if_neg (by omega)])
    have h : n ≤ 1048576 := by omega
    go_enter Try.func30, Try.ntmps30
    go_wp2_with (go_at_call 77; refine (l_szSegmentS a n cap _ hn).mono ?_; rw [e1.out]; rintro e w' ⟨rfl, rfl⟩)
    go_ret
    exact ⟨ret_i64 (by rw [e1.out]), (by repeat (first | (with_reducible exact Later.refl _) | (with_reducible exact Hid.out (by assumption)) | (with_reducible refine Later.alloc ?_ _) | (with_reducible refine Later.drewN ?_ _) | (with_reducible refine Later.drew ?_) | (with_reducible refine Later.trans ?_ (Hid.out (by assumption)))))⟩
/-- what a copy of a slice of segments leaves: a row of its own -/
def CopiedS (w : World) (n : Nat) (L : List Sg) (e : Ending) (w' : World) : Prop :=
  ∃ g, e = .returned (.slice (some ⟨g, 0, none⟩) n n) ∧ w.heap.size ≤ g ∧ SgRow w' g n (flt L) ∧ Later w w'
theorem info_seg : (Try.prog.info? 27).map (fun i => (i.zero, i.size, i.bytes)) = some (some (.agg #[.int .i64 0, .int .i64 0, .int .i64 0, .int .i64 0, .int .i64 0, .int .i64 0, .int .i64 0]), 7, 56) := by kernel_rfl
end Go.Proofs.Ytdhoiiejcmnmbaa
namespace Go.Proofs.Ytdhoiiejcmnmbaa
open Go.RowKit
set_option maxHeartbeats 2000000
set_option linter.unusedVariables false
set_option linter.unusedSimpArgs false
/-- the numbers of a row, of which those of the first k segments are marked -/
def mrkS (f : Nat → Int) (k j : Nat) : Int := if j < k * 7 then 1 + (j : Int) else f j
def MarkedS (w : World) (g n : Nat) (f : Nat → Int) (e : Ending) (w' : World) : Prop :=
  e = .returned (.int .i64 (1 + 7 * (n : Int))) ∧ SgRow w' g n (mrkS f n) ∧ w.grownBy w' (some g)
theorem grown_refl (w : World) (r : Option Nat) : w.grownBy w r := ⟨rfl, rfl, rfl, Nat.le_refl _, fun _ _ _ => rfl⟩
theorem grown_set1 {a b : World} {g : Nat} (h : a.grownBy b (some g)) (j : Nat) (u : Value) : a.grownBy (b.setCell ⟨g, j, none⟩ u) (some g) := grown_trans h (grown_set b g j u)
def MarkedL (w : World) (g n : Nat) (f : Nat → Int) (e : Ending) (w' : World) : Prop :=
  e = .returned (.int .i64 (1 + 7 * (n : Int))) ∧ SgRow w' g n (mrkS f n) ∧ w.grownBy w' (some g)
end Go.Proofs.Ytdhoiiejcmnmbaa
namespace Go.Proofs.Ytdhoiiejcmnmbaa
open Go.RowKit
set_option maxHeartbeats 4000000
set_option linter.unusedVariables false
set_option linter.unusedSimpArgs false
theorem grown_allocC {a b : World} {r : Option Nat} (h : a.grownBy b r) (o : Obj) : a.grownBy (b.alloc o) r := grown_trans h (World.grownBy_alloc b o r)
theorem grown_laterC {a b c : World} {r : Option Nat} (h : a.grownBy b r) (k : Later b c) : a.grownBy c r := grown_trans h ⟨k.os, k.tape, k.output, k.size, fun i hi _ => k.block i hi⟩
theorem grown_drewN' {a b : World} {r : Option Nat} (h : a.grownBy b r) (q : Nat) : a.grownBy (b.drewN q) r := grown_trans h (grown_drewN b q r)
theorem grown_drewC {a b : World} {r : Option Nat} (h : a.grownBy b r) : a.grownBy b.drew r := grown_laterC h (Later.refl _).drew
theorem fr_set {g : Nat} {l : List Value} {w : World} (h : Fr g l w) (j : Nat) (u : Value) : Fr g (l.set j u) (w.setCell ⟨g, j, none⟩ u) := by
  refine ⟨by rw [World.size_setCell]; exact h.1, fun i v hi => ?_⟩
  rw [World.frozen?_setCell]
  rw [List.getElem?_set] at hi
  by_cases e : j = i
  · subst e
    rw [if_pos rfl] at hi
    split at hi
    · cases hi
      rename_i hl
      obtain ⟨c, f⟩ := h.2 j _ (List.getElem?_eq_getElem hl)
      exact ⟨World.cell?_setCell_same _ _ _ c, f⟩
    · cases hi
  · rw [if_neg e] at hi
    obtain ⟨c, f⟩ := h.2 i v hi
    refine ⟨?_, f⟩
    rw [World.cell?_setCell_other _ _ _ _ (by simp [e]; try omega)]
    exact c
theorem fr_far {g : Nat} {l : List Value} {w : World} (h : Fr g l w) (p : Addr) (u : Value) (hp : p.block ≠ g) : Fr g l (w.setCell p u) := by
  refine ⟨by rw [World.size_setCell]; exact h.1, fun i v hi => ?_⟩
  obtain ⟨c, f⟩ := h.2 i v hi
  rw [World.frozen?_setCell]
  refine ⟨?_, f⟩
  rw [World.cell?_setCell_far _ _ _ _ hp]
  exact c
theorem fr_kept {g : Nat} {l : List Value} {w w' : World} {r : Option Nat} (h : Fr g l w) (hg : w.grownBy w' r) (hr : r ≠ some g) : Fr g l w' := by
  refine ⟨Nat.lt_of_lt_of_le h.1 hg.size, fun i v hi => ?_⟩
  obtain ⟨c, f⟩ := h.2 i v hi
  exact ⟨hg.cell c (fun e => hr e.symm), by rw [World.frozen?_of_block (w := w) (hg.block g h.1 (fun e => hr e.symm))]; exact f⟩
theorem grown_newset {a b : World} {r : Option Nat} (h : a.grownBy b r) (p : Addr) (u : Value) (hp : a.heap.size ≤ p.block) : a.grownBy (b.setCell p u) r :=
  ⟨h.os, h.tape, h.output, by rw [World.size_setCell]; exact h.size, fun i hi hr => by rw [heap_setCell_other b p i u (by omega)]; exact h.block i hi hr⟩
/-- the closure that sums, its sum in block g -/
def sumF (g : Nat) : Value := .func (.func 132) #[] #[.pointer (some ⟨g, 0, none⟩)]
theorem i_coasting (a b : Int) (w : World) :
    Calls Try.prog 117 #[.agg #[.int .i64 a, .int .i64 b]] w fun e w' => ∃ g, e = .returned (sumF g) ∧ w.heap.size ≤ g ∧ Fr g [.int .i64 a, .int .i64 b] w' ∧ Later w w' := by
  go_enter Try.func117, Try.ntmps117
  go_wp2_with fail
  go_ret
  have F1 := fr_alloc (X := w.alloc (.cells #[.int .i64 a, .int .i64 b] 25)) (l := [.int .i64 a, .int .i64 b]) (T := 25) (Later.refl _)
  rw [World.size_alloc] at F1
  exact ⟨w.heap.size + 1, rfl, by omega, F1, (by repeat (first | (with_reducible exact Later.refl _) | (with_reducible exact Hid.out (by assumption)) | (with_reducible refine Later.alloc ?_ _) | (with_reducible refine Later.setCell ?_ (by simp; omega) _) | (with_reducible refine Later.setCell ?_ (by simp) _) | (with_reducible refine Later.drewN ?_ _) | (with_reducible refine Later.drew ?_) | (with_reducible refine Later.trans ?_ (Hid.out (by assumption)))))⟩
theorem i_coasting1 (x : Sg) (g : Nat) (a b : Int) (w : World) (h : sgB x = true) (hF : Fr g [.int .i64 a, .int .i64 b] w) (ha : -1000000000000 ≤ a) (ha' : a ≤ 1000000000000) (hb : -1000000000000 ≤ b) (hb' : b ≤ 1000000000000) :
    Calls Try.prog 132 #[.agg #[.int .i64 x.k, .int .i64 x.l, .int .i64 x.r, .int .i64 x.a, .int .i64 x.b, .int .i64 x.c, .int .i64 x.d], .pointer (some ⟨g, 0, none⟩)] w fun e w' => e = .returned (.agg #[.int .i64 (a + chL x), .int .i64 (b + chH x)]) ∧ Fr g [.int .i64 (a + chL x), .int .i64 (b + chH x)] w' ∧ w.grownBy w' (some g) := by
  obtain ⟨c1, c2, c3⟩ := ch_bd x h
  have hlt := hF.lt
  have HF := Lib.hid hF
  clear hF
  go_enter Try.func132, Try.ntmps132
  go_upto_region 1 with (fail)
  refine into (fun w' => Fr w.heap.size [.int .i64 x.k, .int .i64 x.l, .int .i64 x.r, .int .i64 x.a, .int .i64 x.b, .int .i64 x.c, .int .i64 x.d] w' ∧ Fr (w.heap.size + 1) [.int .i64 0, .int .i64 0] w' ∧ Fr g [.int .i64 a, .int .i64 b] w' ∧ Later w w') ⟨?_, ?_, fr_later HF.out (by repeat (first | (with_reducible exact Later.refl _) | (with_reducible exact Hid.out (by assumption)) | (with_reducible refine Later.alloc ?_ _) | (with_reducible refine Later.setCell ?_ (by simp; omega) _) | (with_reducible refine Later.setCell ?_ (by simp) _) | (with_reducible refine Later.drewN ?_ _) | (with_reducible refine Later.drew ?_) | (with_reducible refine Later.trans ?_ (Hid.out (by assumption))))), (by repeat (first | (with_reducible exact Later.refl _) | (with_reducible exact Hid.out (by assumption)) | (with_reducible refine Later.alloc ?_ _) | (with_reducible refine Later.setCell ?_ (by simp; omega) _) | (with_reducible refine Later.setCell ?_ (by simp) _) | (with_reducible refine Later.drewN ?_ _) | (with_reducible refine Later.drew ?_) | (with_reducible refine Later.trans ?_ (Hid.out (by assumption)))))⟩ ?_
  · exact fr_later (fr_alloc (X := w) (l := [.int .i64 x.k, .int .i64 x.l, .int .i64 x.r, .int .i64 x.a, .int .i64 x.b, .int .i64 x.c, .int .i64 x.d]) (T := 27) (Later.refl _)) ((Later.refl _).alloc (.cells #[.int .i64 0, .int .i64 0] 25))
  · have F2 := fr_alloc (X := w.alloc (.cells #[.int .i64 x.k, .int .i64 x.l, .int .i64 x.r, .int .i64 x.a, .int .i64 x.b, .int .i64 x.c, .int .i64 x.d] 27)) (l := [.int .i64 0, .int .i64 0]) (T := 25) (Later.refl _)
    rw [World.size_alloc] at F2
    exact F2
  rintro W ⟨X, R, F, hl⟩
  have HL := Lib.hid hl
  obtain ⟨x0, x1, x2, x3, x4, x5, x6, _⟩ := Fr.o7 X
  obtain ⟨r1, r2, r3, r4⟩ := Fr.o2 R
  obtain ⟨f1, f2, f3, f4⟩ := Fr.o2 F
  clear hl X
  go_region_with (first
      | (go_at_call 71; refine (i_coastingChange x _ h).mono ?_; rintro e w1 ⟨rfl, hb⟩; have H := Lib.hid hb; (first | (have F := fr_later F hb; obtain ⟨f1, f2, f3, f4⟩ := Fr.o2 F) | (have F := fr_later F (later_undrew hb); obtain ⟨f1, f2, f3, f4⟩ := Fr.o2 F) | (have F := fr_later F (later_undrewN hb); obtain ⟨f1, f2, f3, f4⟩ := Fr.o2 F)); (first | (have R := fr_later R hb; obtain ⟨r1, r2, r3, r4⟩ := Fr.o2 R) | (have R := fr_later R (later_undrew hb); obtain ⟨r1, r2, r3, r4⟩ := Fr.o2 R) | (have R := fr_later R (later_undrewN hb); obtain ⟨r1, r2, r3, r4⟩ := Fr.o2 R)); clear hb)
      | (go_at_call 76; refine (i_plus _ _ _ _ _ (by omega) (by omega) (by omega) (by omega) (by omega) (by omega) (by omega) (by omega)).mono ?_; rintro e w1 ⟨rfl, hb⟩; have H := Lib.hid hb; (first | (have F := fr_later F hb; obtain ⟨f1, f2, f3, f4⟩ := Fr.o2 F) | (have F := fr_later F (later_undrew hb); obtain ⟨f1, f2, f3, f4⟩ := Fr.o2 F) | (have F := fr_later F (later_undrewN hb); obtain ⟨f1, f2, f3, f4⟩ := Fr.o2 F)); (first | (have R := fr_later R hb; obtain ⟨r1, r2, r3, r4⟩ := Fr.o2 R) | (have R := fr_later R (later_undrew hb); obtain ⟨r1, r2, r3, r4⟩ := Fr.o2 R) | (have R := fr_later R (later_undrewN hb); obtain ⟨r1, r2, r3, r4⟩ := Fr.o2 R)); clear hb))
  all_goals
    have G : Hid (w.grownBy w1 (some g)) := Lib.hid (grown_laterC (grown_refl w (some g)) (by repeat (first | (with_reducible exact Later.refl _) | (with_reducible exact Hid.out (by assumption)) | (with_reducible refine Later.alloc ?_ _) | (with_reducible refine Later.setCell ?_ (by simp; omega) _) | (with_reducible refine Later.setCell ?_ (by simp) _) | (with_reducible refine Later.drewN ?_ _) | (with_reducible refine Later.drew ?_) | (with_reducible refine Later.trans ?_ (Hid.out (by assumption))))))
    have hne : ¬ g = w.heap.size + 1 := by omega
    have hne' : ¬ w.heap.size + 1 = g := by omega
    go_wp2_with fail
    refine bodyPost_ret (v := .agg #[.int .i64 (a + chL x), .int .i64 (b + chH x)]) (by simp [results, Try.results132, go_sem, *]) rfl ⟨rfl, ?_, ?_⟩
    · exact fr_far (fr_far (fr_set (fr_set F 0 _) 1 _) _ _ (by simp <;> omega)) _ _ (by simp <;> omega)
    · exact grown_newset (grown_newset (grown_set1 (grown_set1 G.out _ _) _ _) _ _ (by simp)) _ _ (by simp)
end Go.Proofs.Ytdhoiiejcmnmbaa
namespace Go.Proofs.Ytdhoiiejcmnmbaa
open Go.RowKit
set_option maxHeartbeats 4000000
set_option linter.unusedVariables false
set_option linter.unusedSimpArgs false
theorem i_energiesBefore (a b m : Int) (w : World) (ha : -1000000000000 ≤ a) (ha' : a ≤ 1000000000000) (hb : -1000000000000 ≤ b) (hb' : b ≤ 1000000000000) (hm : -1000000000000 ≤ m) (hm' : m ≤ 1000000000000) :
    Calls Try.prog 119 #[.agg #[.int .i64 a, .int .i64 b], .int .i64 m] w fun e w' => e = .returned (.agg #[.int .i64 (-a), .int .i64 (m - b)]) ∧ Later w w' := by
  go_enter Try.func119, Try.ntmps119
  go_wp2
  refine bodyPost_ret (v := .agg #[.int .i64 (-a), .int .i64 (m - b)]) (by simp [results, Try.results119, go_sem, *]) rfl ⟨rfl, (by repeat (first | (with_reducible exact Later.refl _) | (with_reducible exact Hid.out (by assumption)) | (with_reducible refine Later.alloc ?_ _) | (with_reducible refine Later.setCell ?_ (by simp; omega) _) | (with_reducible refine Later.setCell ?_ (by simp) _) | (with_reducible refine Later.drewN ?_ _) | (with_reducible refine Later.drew ?_) | (with_reducible refine Later.trans ?_ (Hid.out (by assumption)))))⟩
/-- the greatest energy that a holding segment holds, and its code -/
def ghV (x : Sg) : Int := if x.k = 1 then 10000000000 else gsV x
def ghE (x : Sg) : Int := if x.k = 1 then 0 else slE x
theorem i_greatestHeld (x : Sg) (w : World) :
    Calls Try.prog 120 #[.agg #[.int .i64 x.k, .int .i64 x.l, .int .i64 x.r, .int .i64 x.a, .int .i64 x.b, .int .i64 x.c, .int .i64 x.d]] w fun e w' => e = .returned (.tuple #[.int .i64 (ghV x), .int .i64 (ghE x)]) ∧ Later w w' := by
  by_cases h : x.k = 1
  · have e1 : Hid (ghV x = 10000000000) := Lib.hid (by unfold ghV; rw [if_pos h])
    have e2 : Hid (ghE x = 0) := Lib.hid (by unfold ghE; rw [if_pos h])
    have hk : (x.k == 1) = true := by simpa using h
    clear h
    go_enter Try.func120, Try.ntmps120
    go_wp2
    go_ret2
    exact ⟨ret_2i e1.out.symm e2.out.symm, (by repeat (first | (with_reducible exact Later.refl _) | (with_reducible exact Hid.out (by assumption)) | (with_reducible refine Later.alloc ?_ _) | (with_reducible refine Later.setCell ?_ (by simp; omega) _) | (with_reducible refine Later.setCell ?_ (by simp) _) | (with_reducible refine Later.drewN ?_ _) | (with_reducible refine Later.drew ?_) | (with_reducible refine Later.trans ?_ (Hid.out (by assumption)))))⟩
  · have e1 : ghV x = gsV x := by unfold ghV; rw [if_neg h]
    have e2 : ghE x = slE x := by unfold ghE; rw [if_neg h]
    have hk : (x.k == 1) = false := by simpa using h
    rw [e1, e2]
    clear h e1 e2
    go_enter Try.func120, Try.ntmps120
    go_wp2_with (go_at_call 47; refine (i_GreatestStop x _).mono ?_; rintro e w1 ⟨rfl, hb⟩; obtain ⟨H, hcc, hff, hzz⟩ := later_facts hb; clear hb; (try simp at hzz); (try simp only [World.heap_drewN, World.cell?_drewN, World.frozen?_drewN] at hcc hff); have hz0 : w.heap.size < w1.heap.size := (by omega); (try (have hz1 : w.heap.size + 1 < w1.heap.size := (by omega))); (try (have hz2 : w.heap.size + 1 + 1 < w1.heap.size := (by omega))); (try (have hz3 : w.heap.size + 1 + 1 + 1 < w1.heap.size := (by omega))); (try (have hz4 : w.heap.size + 1 + 1 + 1 + 1 < w1.heap.size := (by omega))))
    go_ret2
    exact ⟨rfl, (by repeat (first | (with_reducible exact Later.refl _) | (with_reducible exact Hid.out (by assumption)) | (with_reducible refine Later.alloc ?_ _) | (with_reducible refine Later.setCell ?_ (by simp; omega) _) | (with_reducible refine Later.setCell ?_ (by simp) _) | (with_reducible refine Later.drewN ?_ _) | (with_reducible refine Later.drew ?_) | (with_reducible refine Later.trans ?_ (Hid.out (by assumption)))))⟩
end Go.Proofs.Ytdhoiiejcmnmbaa
namespace Go.Proofs.Ytdhoiiejcmnmbaa
open Go.RowKit
set_option maxHeartbeats 4000000
set_option linter.unusedVariables false
set_option linter.unusedSimpArgs false
/-- append(out, M...) as one step of a region that draws its order: M's cells lie where x points -/
theorem stepS {ops : Array Oper} {o : Oper} {a : Act} {W : World} {K : Act → World → Prop} {Q : Exit → Act → World → Prop} {E : Prop} (hgd : o.guard = none) (s x : Operand)
    (ho : o.op = .call { callee := .builtin .append, args := #[s, x], argTypes := #[45, 45] })
    (base : Nat) (v : Value) (L M : List Sg) (ad : Addr) (m c : Nat) (hown : OwnS W base v L) (hcell : ∀ j u, (sgVals M)[j]? = some u → W.cell? (ad.add j) = some u) (hm : M.length = m) (hy : ∀ x ∈ M, x.In) (hs : a.eval s = v) (hx : a.eval x = .slice (some ad) m c) (hl : L.length + m ≤ 1000000000) (hbase : base ≤ W.heap.size)
    (h : ∀ v' w', OwnS w' base v' (L ++ M) → W.grownBy w' v.ownBlock → K (a.put o.dst v') w') : if Region.wanted o (yielded ops a.tmps) = true then Oper.wp Try.prog o a W K Q else E := by
  have hw : Region.wanted o (yielded ops a.tmps) = true := by simp [Region.wanted, hgd]
  rw [if_pos hw]
  obtain ⟨i0, hi, hz0, hz1, hz2⟩ := info_parts info_sg
  subst hm
  obtain ⟨v', w', hrun, r1, r2, _⟩ := run_append_own (P := Try.prog) W base 45 o.type 27 i0 (.agg #[.int .i64 0, .int .i64 0, .int .i64 0, .int .i64 0, .int .i64 0, .int .i64 0, .int .i64 0]) 7 56 Try.underlying45 hi hz0 hz1 hz2 rfl (by decide) v L.length _ hown.1 ad M.length c (sgVals M) (by rw [sgVals_len]) hcell (fun u hu => by
    obtain ⟨j, hj, e⟩ := List.getElem_of_mem hu
    have hf := sgVals_flt M j (by rw [sgVals_len] at hj; exact hj)
    rw [List.getElem?_eq_getElem hj, e] at hf
    cases hf; rfl) (by unfold maxLen; omega) (by omega) hbase
  unfold Oper.wp
  simp [execOp, ho, resolve, invoke, builtin, hs, hx, hrun, Result.andThen]
  refine h v' w' ⟨by rw [sgVals_app, List.length_append]; exact r1, ?_⟩ r2
  intro z hz
  rcases List.mem_append.1 hz with hz | hz
  · exact hown.2 z hz
  · exact hy z hz
theorem cells_alloc (X : World) (l : List Value) (T : TypeId) : ∀ j u, l[j]? = some u → (X.alloc (.cells l.toArray T)).cell? ((⟨X.heap.size, 0, none⟩ : Addr).add j) = some u := by
  intro j u hu
  rw [Addr.add_lit, Nat.zero_add, cell_of_row _ _ j _ T (0, 0) (heap_alloc_new X _)]
  simpa using hu
/-- what a run leaves -/
def GivesS (w : World) (R : List Sg) (c : Int) (e : Ending) (w' : World) : Prop :=
  ∃ v, e = .returned (.tuple #[v, .int .i64 c]) ∧ OwnS w' w.heap.size v R ∧ Later w w'
theorem i_segmentsAlong (a : Option Addr) (n cap : Nat) (L : List Sg) (f c : Int) (w : World) (hs : Sgs w a n L) :
    Calls Try.prog 135 #[.agg #[.slice a n cap], .int .i64 f, .int .i64 c] w (GivesS w (sgV L f c) (sgE L f c)) := by
  have HS := Lib.hid hs
  have HL := Lib.hid hs.1
  have hn := hs.2.1
  clear hs
  cases hv : layB L
  · have E1 : Hid (sgE L f c = 1) := Lib.hid (by unfold sgE; rw [hv]; rfl)
    have E2 : Hid (sgV L f c = []) := Lib.hid (by unfold sgV; rw [E1.out]; rfl)
    go_enter Try.func135, Try.ntmps135
    go_wp2_with fail
    refine (i_IsLayout a n cap L _ (HS.out.later (by repeat (first | (with_reducible exact Later.refl _) | (with_reducible exact Hid.out (by assumption)) | (with_reducible refine Later.alloc ?_ _) | (with_reducible refine Later.setCell ?_ (by simp; omega) _) | (with_reducible refine Later.setCell ?_ (by simp) _) | (with_reducible refine Later.drewN ?_ _) | (with_reducible refine Later.drew ?_) | (with_reducible refine Later.trans ?_ (Hid.out (by assumption))))))).mono ?_
    rw [hv]
    rintro e w1 ⟨rfl, hb⟩
    have H1 := Lib.hid hb
    clear hb
    go_wp2_with fail
    go_ret2
    exact ⟨.slice none 0 0, by rw [E1.out]; rfl, by rw [E2.out]; exact ownS_none _ _, (by repeat (first | (with_reducible exact Later.refl _) | (with_reducible exact Hid.out (by assumption)) | (with_reducible refine Later.alloc ?_ _) | (with_reducible refine Later.setCell ?_ (by simp; omega) _) | (with_reducible refine Later.setCell ?_ (by simp) _) | (with_reducible refine Later.drewN ?_ _) | (with_reducible refine Later.drew ?_) | (with_reducible refine Later.trans ?_ (Hid.out (by assumption)))))⟩
  · by_cases hr : 0 ≤ f ∧ f < (n : Int) ∧ 0 ≤ c ∧ c ≤ 24
    · obtain ⟨f', rfl⟩ : ∃ f' : Nat, f = (f' : Int) := ⟨f.toNat, by omega⟩
      obtain ⟨c', rfl⟩ : ∃ c' : Nat, c = (c' : Int) := ⟨c.toNat, by omega⟩
      have E1 : Hid (sgE L (f' : Int) (c' : Int) = 0) := Lib.hid (by unfold sgE; rw [hv, if_pos rfl, HL.out, if_pos hr])
      have E2 : Hid (sgV L (f' : Int) (c' : Int) = runS L f' c') := Lib.hid (by unfold sgV; rw [E1.out]; rfl)
      obtain ⟨_, h2, _, h4⟩ := hr
      have h24 : n ≤ 24 := by have := (layB_iff L).1 hv; have := HL.out; omega
      have hf : f' < n := by omega
      have hnf : ¬ n ≤ f' := by omega
      have hc : c' ≤ 24 := by omega
      clear h4
      go_enter Try.func135, Try.ntmps135
      go_wp2_with fail
      refine (i_IsLayout a n cap L _ (HS.out.later (by repeat (first | (with_reducible exact Later.refl _) | (with_reducible exact Hid.out (by assumption)) | (with_reducible refine Later.alloc ?_ _) | (with_reducible refine Later.setCell ?_ (by simp; omega) _) | (with_reducible refine Later.setCell ?_ (by simp) _) | (with_reducible refine Later.drewN ?_ _) | (with_reducible refine Later.drew ?_) | (with_reducible refine Later.trans ?_ (Hid.out (by assumption))))))).mono ?_
      rw [hv]
      rintro e w1 ⟨rfl, hb⟩
      have H1 := Lib.hid hb
      have hc1 : w1.cell? ⟨w.heap.size, 0, none⟩ = some (.slice a n cap) := by rw [hb.cell (p := ⟨w.heap.size, 0, none⟩) (by simp)]; simp
      have hz1 : w.heap.size < w1.heap.size := sg_cell_lt hc1
      clear hb
      go_wp2_with fail
      go_loopw [9, 33] (fun v i wr => ∃ k : Nat, k ≤ c' ∧ i = .int .i64 k ∧ OwnS wr (w.heap.size + 1) v (runS L f' k) ∧ wr.cell? ⟨w.heap.size, 0, none⟩ = some (.slice a n cap) ∧ Later w wr) (fun _ i _ => c' - (intOf i).toNat)
      case atStart => exact ⟨0, by omega, rfl, by rw [runS_0]; exact ownS_none _ _, hc1, (by repeat (first | (with_reducible exact Later.refl _) | (with_reducible exact Hid.out (by assumption)) | (with_reducible refine Later.alloc ?_ _) | (with_reducible refine Later.setCell ?_ (by simp; omega) _) | (with_reducible refine Later.setCell ?_ (by simp) _) | (with_reducible refine Later.drewN ?_ _) | (with_reducible refine Later.drew ?_) | (with_reducible refine Later.trans ?_ (Hid.out (by assumption)))))⟩
      case round =>
        have hf24 : f' ≤ 24 := by omega
        have hn0 : ¬ n = 0 := by omega
        clear hc1 hz1 hf h2
        obtain ⟨k, hk, rfl, ho, hc1, hlw⟩ := hrel
        have HO := Lib.hid ho; have HW := Lib.hid hlw
        have hz1 : w.heap.size < wr.heap.size := sg_cell_lt hc1
        clear ho hlw
        by_cases hlt : k < c'
        · obtain ⟨r, hr⟩ : ∃ r, r = (f' + k) % n := ⟨_, rfl⟩
          have hrn : r < n := by rw [hr]; exact Nat.mod_lt _ (by omega)
          have hmod : ((f' : Int) + (k : Int)).tmod (n : Int) = (r : Int) := by
            rw [Int.tmod_eq_emod_of_nonneg (by omega), hr, Int.natCast_emod, Int.natCast_add]
          have HR : Hid (runS L f' (k + 1) = runS L f' k ++ [sx L r]) := Lib.hid (by rw [runS_succ, HL.out, ← hr])
          obtain ⟨b, off, rfl, hb, hcc⟩ := (HS.out.later HW.out).at r hrn
          have hin := HS.out.in r hrn
          obtain ⟨c0, c1, c2, c3, c4, c5, c6⟩ := hcc
          have hwr : IntKind.i64.wrap ((f' : Int) + (k : Int)) = (f' : Int) + (k : Int) := IntWalk.i64_in _ (by omega)
          clear hr
          go_wp2_with fail
          go_region_law (first
            | (refine stepS rfl (.tmp 36) (.tmp 46) rfl (w.heap.size + 1) _ (runS L f' k) [sx L r] _ 1 1 (HO.out.below (by repeat (first | (with_reducible exact Later.refl _) | (with_reducible exact Hid.out (by assumption)) | (with_reducible refine Later.alloc ?_ _) | (with_reducible refine Later.setCell ?_ (by simp; omega) _) | (with_reducible refine Later.setCell ?_ (by simp) _) | (with_reducible refine Later.drewN ?_ _) | (with_reducible refine Later.drew ?_) | (with_reducible refine Later.trans ?_ (Hid.out (by assumption)))))) (cells_alloc _ _ _) rfl (fun x hx => by simp at hx; subst hx; exact hin) (by simp [Act.eval, Act.put]) (by simp [Act.eval, Act.put]) (by rw [runS_len]; omega) (by simp; omega) ?_; intro v' w4 ho4 hg4; have O4 := Lib.hid ho4; have G4 := Lib.hid hg4; clear ho4 hg4))
          all_goals
            have H4 : Hid (Later w w4) := Lib.hid (Below.grown (show Later w _ from (by repeat (first | (with_reducible exact Later.refl _) | (with_reducible exact Hid.out (by assumption)) | (with_reducible refine Later.alloc ?_ _) | (with_reducible refine Later.setCell ?_ (by simp; omega) _) | (with_reducible refine Later.setCell ?_ (by simp) _) | (with_reducible refine Later.drewN ?_ _) | (with_reducible refine Later.drew ?_) | (with_reducible refine Later.trans ?_ (Hid.out (by assumption)))))) G4.out (by simp; omega) (fun j e => by have := (HO.out.lt j e).1; omega))
            have hc4 : w4.cell? ⟨w.heap.size, 0, none⟩ = some (.slice (some ⟨b, off, none⟩) n cap) := G4.out.cell (((show Later wr _ from (by repeat (first | (with_reducible exact Later.refl _) | (with_reducible exact Hid.out (by assumption)) | (with_reducible refine Later.alloc ?_ _) | (with_reducible refine Later.setCell ?_ (by simp; omega) _) | (with_reducible refine Later.setCell ?_ (by simp) _) | (with_reducible refine Later.drewN ?_ _) | (with_reducible refine Later.drew ?_) | (with_reducible refine Later.trans ?_ (Hid.out (by assumption)))))).cell (p := ⟨w.heap.size, 0, none⟩) hz1).trans hc1) (fun e => by have := (HO.out.lt _ e.symm).1; simp at this; omega)
            clear c0 c1 c2 c3 c4 c5 c6
            go_wp2_with fail
            go_roundw
            case rel => exact ⟨k + 1, by omega, by go_num, by rw [HR.out]; exact O4.out, hc4, H4.out⟩
            case measure => simp [intOf]; omega
        · obtain rfl : k = c' := by omega
          go_wp2_with fail
          go_ret2
          exact ⟨_, by rw [E1.out]; rfl, by rw [E2.out]; exact HO.out.mono (by omega), HW.out⟩
    · have E1 : Hid (sgE L f c = 2) := Lib.hid (by unfold sgE; rw [hv, if_pos rfl, HL.out, if_neg hr])
      have E2 : Hid (sgV L f c = []) := Lib.hid (by unfold sgV; rw [E1.out]; rfl)
      have hr2 : f < 0 ∨ (0 ≤ f ∧ (n : Int) ≤ f) ∨ (0 ≤ f ∧ f < (n : Int) ∧ c < 0) ∨ (0 ≤ f ∧ f < (n : Int) ∧ 0 ≤ c ∧ 24 < c) := by omega
      clear hr
      rcases hr2 with h1 | ⟨h1, h2⟩ | ⟨h1, h2, h3⟩ | ⟨h1, h2, h3, h4⟩
      all_goals
        go_enter Try.func135, Try.ntmps135
        go_wp2_with fail
        refine (i_IsLayout a n cap L _ (HS.out.later (by repeat (first | (with_reducible exact Later.refl _) | (with_reducible exact Hid.out (by assumption)) | (with_reducible refine Later.alloc ?_ _) | (with_reducible refine Later.setCell ?_ (by simp; omega) _) | (with_reducible refine Later.setCell ?_ (by simp) _) | (with_reducible refine Later.drewN ?_ _) | (with_reducible refine Later.drew ?_) | (with_reducible refine Later.trans ?_ (Hid.out (by assumption))))))).mono ?_
        rw [hv]
        rintro e w1 ⟨rfl, hb⟩
        have H1 := Lib.hid hb
        have hc1 : w1.cell? ⟨w.heap.size, 0, none⟩ = some (.slice a n cap) := by rw [hb.cell (p := ⟨w.heap.size, 0, none⟩) (by simp)]; simp
        clear hb
        go_wp2_with fail
        go_ret2
        exact ⟨.slice none 0 0, by rw [E1.out]; rfl, by rw [E2.out]; exact ownS_none _ _, (by repeat (first | (with_reducible exact Later.refl _) | (with_reducible exact Hid.out (by assumption)) | (with_reducible refine Later.alloc ?_ _) | (with_reducible refine Later.setCell ?_ (by simp; omega) _) | (with_reducible refine Later.setCell ?_ (by simp) _) | (with_reducible refine Later.drewN ?_ _) | (with_reducible refine Later.drew ?_) | (with_reducible refine Later.trans ?_ (Hid.out (by assumption)))))⟩
end Go.Proofs.Ytdhoiiejcmnmbaa
namespace Go.Proofs.Ytdhoiiejcmnmbaa
open Go.RowKit
set_option maxHeartbeats 2000000
set_option linter.unusedVariables false
set_option linter.unusedSimpArgs false
/-- 'the slice value (a, n, ..) of structs that are wd cells wide reads as the numbers l' -/
def Wd (w : World) (a : Option Addr) (n wd : Nat) (l : List Int) : Prop :=
  l.length = n * wd ∧ n ≤ 9223372036854775807 ∧ (∀ j, j < n * wd → ∃ b off, a = some ⟨b, off, none⟩ ∧ w.cell? ⟨b, off + j, none⟩ = some (.int .i64 (gx l j))) ∧ ∀ x ∈ l, InR x
theorem Wd.rng {w : World} {a : Option Addr} {n wd : Nat} {l : List Int} (h : Wd w a n wd l) (j : Nat) (hj : j < n * wd) : InR (gx l j) := h.2.2.2 _ (gx_mem l j (by rw [h.1]; exact hj))
theorem Wd.later {w w' : World} {a : Option Addr} {n wd : Nat} {l : List Int} (h : Wd w a n wd l) (hb : Later w w') : Wd w' a n wd l := by
  obtain ⟨h1, h2, h3, h4⟩ := h
  refine ⟨h1, h2, fun j hj => ?_, h4⟩
  obtain ⟨b, off, rfl, hc⟩ := h3 j hj
  exact ⟨b, off, rfl, by rw [hb.cell (p := ⟨b, off + j, none⟩) (cell_lt hc)]; exact hc⟩
theorem Wd.kept {w w' : World} {a : Option Addr} {n wd : Nat} {l : List Int} {r : Option Nat} (h : Wd w a n wd l) (hg : w.grownBy w' r) (hr : ∀ x, a = some x → r ≠ some x.block) : Wd w' a n wd l := by
  obtain ⟨h1, h2, h3, h4⟩ := h
  refine ⟨h1, h2, fun j hj => ?_, h4⟩
  obtain ⟨b, off, rfl, hc⟩ := h3 j hj
  exact ⟨b, off, rfl, hg.cell hc (fun e => hr _ rfl e.symm)⟩
/-- element k of such a slice, its cells from k * 2 on -/
theorem Wd.two {w : World} {a : Option Addr} {n : Nat} {l : List Int} (h : Wd w a n 2 l) (k : Nat) (hk : k < n) :
    ∃ b off, a = some ⟨b, off, none⟩ ∧ w.cell? ⟨b, off + k * 2, none⟩ = some (.int .i64 (gx l (k * 2))) ∧ w.cell? ⟨b, off + k * 2 + 1, none⟩ = some (.int .i64 (gx l (k * 2 + 1))) := by
  obtain ⟨b, off, rfl, h0⟩ := h.2.2.1 (k * 2) (by omega)
  obtain ⟨b', off', e, h1⟩ := h.2.2.1 (k * 2 + 1) (by omega)
  cases e
  exact ⟨b, off, rfl, h0, h1⟩
/-- 'v is such a slice of the call's own, in blocks from base on' -/
def OwnW (w : World) (base : Nat) (T : TypeId) (wd : Nat) (v : Value) (n : Nat) (l : List Int) : Prop :=
  w.ownsRow base T wd v n (l.map (Value.int .i64)) ∧ ∀ x ∈ l, InR x
theorem OwnW.lt {w : World} {base wd n : Nat} {T : TypeId} {v : Value} {l : List Int} (h : OwnW w base T wd v n l) : ∀ k, v.ownBlock = some k → base ≤ k ∧ k < w.heap.size := h.1.lt
theorem OwnW.len {w : World} {base wd n : Nat} {T : TypeId} {v : Value} {l : List Int} (h : OwnW w base T wd v n l) : l.length = n * wd := by have := h.1.1; simpa using this
theorem OwnW.kept {w w' : World} {base wd n : Nat} {T : TypeId} {v : Value} {l : List Int} {row : Option Nat} (h : OwnW w base T wd v n l) (hg : w.grownBy w' row) (hr : ∀ k, v.ownBlock = some k → row ≠ some k) : OwnW w' base T wd v n l := by
  refine ⟨h.1.kept hg ?_, h.2⟩
  cases hv : v.ownBlock with
  | none => exact .inl rfl
  | some k => exact .inr (fun e => hr k hv e.symm)
theorem OwnW.later {w w' : World} {base wd n : Nat} {T : TypeId} {v : Value} {l : List Int} (h : OwnW w base T wd v n l) (k : Later w w') : OwnW w' base T wd v n l :=
  h.kept (row := none) ⟨k.os, k.tape, k.output, k.size, fun i hi _ => k.block i hi⟩ (fun _ _ e => by cases e)
theorem OwnW.mono {w : World} {base base' wd n : Nat} {T : TypeId} {v : Value} {l : List Int} (h : OwnW w base T wd v n l) (hb : base' ≤ base) : OwnW w base' T wd v n l := by
  refine ⟨⟨h.1.1, ?_⟩, h.2⟩
  rcases h.1.2 with h0 | ⟨g, cap, cur, e, hg, r⟩
  · exact .inl h0
  · exact .inr ⟨g, cap, cur, e, by omega, r⟩
theorem ownW_none (w : World) (base wd : Nat) (T : TypeId) : OwnW w base T wd (.slice none 0 0) 0 [] := ⟨⟨by simp, .inl ⟨rfl, rfl⟩⟩, fun x hx => by simp at hx⟩
theorem ownW_new (w : World) (base wd : Nat) (T : TypeId) (h : base ≤ w.heap.size) : OwnW (w.alloc (.cells #[] T)) base T wd (.slice (some ⟨w.heap.size, 0, none⟩) 0 0) 0 [] :=
  ⟨World.ownsRow_made w #[] 0 h (by unfold maxLen; omega) (by simp), fun x hx => by simp at hx⟩
theorem OwnW.wd {w : World} {base wd n : Nat} {T : TypeId} {v : Value} {l : List Int} (h : OwnW w base T wd v n l) : ∃ a cap, v = .slice a n cap ∧ n ≤ cap ∧ Wd w a n wd l ∧ (∀ x, a = some x → base ≤ x.block ∧ x.block < w.heap.size) ∧ (a = none → cap = 0) := by
  have h1 := h.1
  have hlen := h.len
  rcases h1.2 with ⟨rfl, rfl⟩ | ⟨g, cap, cur, rfl, hb, hg, hnc, hcm, _⟩
  · exact ⟨none, 0, rfl, Nat.le_refl _, ⟨hlen, by omega, fun j hj => by simp at hj, h.2⟩, fun x hx => by (cases hx), fun _ => rfl⟩
  · have hm := hcm
    unfold maxLen at hm
    refine ⟨some ⟨g, 0, none⟩, cap, rfl, hnc, ⟨hlen, by omega, fun j hj => ⟨g, 0, rfl, ?_⟩, h.2⟩, fun x hx => by cases hx; exact ⟨hb, (h1.lt g rfl).2⟩, fun e => by cases e⟩
    rw [Nat.zero_add, h1.cellAt j hj, List.getElem?_map, List.getElem?_eq_getElem (by omega), ← gx_of l j (by omega)]; rfl
/-- append(out, M...), the cells of M in a new block -/
theorem appW {ops : Array Oper} {rest : List Oper} {o : Oper} {act : Act} {Q : Exit → Act → World → Prop} (hgd : o.guard = none) (s x : Operand) (T S : TypeId) (z : Value) (wd bytes : Nat)
    (hI : (Try.prog.info? T).map (fun i => (i.zero, i.size, i.bytes)) = some (some z, wd, bytes)) (hU : Try.prog.underlying S = some (.slice T)) (hzs : z.cells.size = wd) (hwd : 0 < wd) (hby : bytes ≤ 1000)
    (ho : o.op = .call { callee := .builtin .append, args := #[s, x], argTypes := #[S, S] })
    (base : Nat) (W : World) (T' : TypeId) (v : Value) (n m : Nat) (l M : List Int) (cells : Array Value) (hcells : cells = (M.map (Value.int .i64)).toArray) (hm : M.length = m * wd) (hown : OwnW W base T wd v n l) (hs : act.eval s = v) (hx : act.eval x = .slice (some ⟨W.heap.size, 0, none⟩) m m) (hy : ∀ x ∈ M, InR x) (hl : n + m ≤ 1000000000) (hbase : base ≤ W.heap.size)
    (h : ∀ v' w', OwnW w' base T wd v' (n + m) (l ++ M) → W.grownBy w' v.ownBlock → wpList Try.prog ops Q rest (act.put o.dst v') w') : wpList Try.prog ops Q (o :: rest) act (W.alloc (.cells cells T')) := by
  subst hcells
  obtain ⟨i0, hi, hz0, hz1, hz2⟩ := info_parts hI
  have hc : ∀ j u, (M.map (Value.int .i64))[j]? = some u → (W.alloc (.cells (M.map (Value.int .i64)).toArray T')).cell? ⟨W.heap.size, j, none⟩ = some u := by
    intro j u hu
    rw [cell_of_row _ _ j _ T' (0, 0) (heap_alloc_new W _)]
    simpa using hu
  have hown' : (W.alloc (.cells (M.map (Value.int .i64)).toArray T')).ownsRow base T wd v n (l.map (Value.int .i64)) := hown.1.alloc _
  have hbb : (n + m) * bytes ≤ 1000000000 * 1000 := Nat.mul_le_mul hl hby
  refine wpList_append_own _ hgd s x _ ho base T i0 z wd bytes hU hi hz0 hz1 hz2 hzs hwd v n _ hs hown' ⟨W.heap.size, 0, none⟩ m m (M.map (Value.int .i64)) hx (by rw [List.length_map, hm]) ?_ ?_ (by unfold maxLen; omega) (by omega) (by show base ≤ (W.alloc _).heap.size; simp; omega) ?_
  · intro j u hj
    rw [Addr.add_lit, Nat.zero_add]
    exact hc j u hj
  · intro u hu
    obtain ⟨y, _, rfl⟩ := List.mem_map.1 hu
    rfl
  · intro v' w' h1 h2 _
    refine h v' w' ⟨?_, ?_⟩ (grown_trans (World.grownBy_alloc W _ _) h2)
    · rw [List.map_append]; exact h1
    · intro z hz
      rcases List.mem_append.1 hz with hz | hz
      · exact hown.2 z hz
      · exact hy z hz
/-- the numbers of a list of intervals, of which k are marked -/
def mrk2 (l : List Int) (k : Nat) : List Int := (List.range l.length).map fun j => if j < k * 2 then 1 + (j : Int) else gx l j
theorem mrk2_len (l : List Int) (k : Nat) : (mrk2 l k).length = l.length := by simp [mrk2]
theorem mrk2_get (l : List Int) (k j : Nat) (h : j < l.length) : (mrk2 l k)[j]? = some (if j < k * 2 then 1 + (j : Int) else gx l j) := by simp [mrk2, h]
theorem mrk2_gx (l : List Int) (k j : Nat) (h : j < l.length) (hj : j < k * 2) : gx (mrk2 l k) j = 1 + (j : Int) := by
  rw [gx_of _ _ (by rw [mrk2_len]; exact h)]
  simp [mrk2, hj]
theorem mrk2_0 (l : List Int) : mrk2 l 0 = l := by
  apply List.ext_getElem?
  intro j
  by_cases h : j < l.length
  · rw [mrk2_get l 0 j h, if_neg (by omega), List.getElem?_eq_getElem h, gx_of l j h]
  · rw [List.getElem?_eq_none (by rw [mrk2_len]; omega), List.getElem?_eq_none (by omega)]
theorem mrk2_set (l : List Int) (k : Nat) (hk : k * 2 + 1 < l.length) : ((mrk2 l k).set (k * 2) (1 + ((k * 2 : Nat) : Int))).set (k * 2 + 1) (1 + ((k * 2 + 1 : Nat) : Int)) = mrk2 l (k + 1) := by
  apply List.ext_getElem?
  intro j
  by_cases h : j < l.length
  · rw [List.getElem?_set, List.getElem?_set, List.length_set, mrk2_len, mrk2_get l k j h, mrk2_get l (k + 1) j h]
    by_cases e : k * 2 + 1 = j
    · subst e; rw [if_pos rfl, if_pos h, if_pos (by omega)]
    · rw [if_neg e]
      by_cases e2 : k * 2 = j
      · subst e2; rw [if_pos rfl, if_pos h, if_pos (by omega)]
      · rw [if_neg e2]
        by_cases c : j < k * 2
        · rw [if_pos c, if_pos (by omega)]
        · rw [if_neg c, if_neg (by omega)]
  · rw [List.getElem?_eq_none (by simp [mrk2]; omega), List.getElem?_eq_none (by simp [mrk2]; omega)]
theorem mrk2_in (l : List Int) (k : Nat) (hl : l.length ≤ 1000000000) (h : ∀ x ∈ l, InR x) : ∀ x ∈ mrk2 l k, InR x := by
  intro x hx
  obtain ⟨j, hj, rfl⟩ := List.mem_map.1 hx
  rw [List.mem_range] at hj
  by_cases c : j < k * 2
  · simp only [if_pos c]; exact ⟨by omega, by omega⟩
  · simp only [if_neg c]; exact h _ (gx_mem l j hj)
end Go.Proofs.Ytdhoiiejcmnmbaa
namespace Go.Proofs.Ytdhoiiejcmnmbaa
open Go.RowKit
set_option maxHeartbeats 2000000
set_option linter.unusedVariables false
set_option linter.unusedSimpArgs false
theorem info_iv : (Try.prog.info? 25).map (fun i => (i.zero, i.size, i.bytes)) = some (some (.agg #[.int .i64 0, .int .i64 0]), 2, 16) := by kernel_rfl
/-- a slice of intervals of the call's own -/
def OwnI (w : World) (base : Nat) (v : Value) (n : Nat) (l : List Int) : Prop := OwnW w base 25 2 v n l
/-- append(out, e) -/
theorem appI {ops : Array Oper} {rest : List Oper} {o : Oper} {act : Act} {Q : Exit → Act → World → Prop} (hgd : o.guard = none) (s x : Operand)
    (ho : o.op = .call { callee := .builtin .append, args := #[s, x], argTypes := #[133, 133] })
    (base : Nat) (W : World) (T' : TypeId) (v : Value) (n : Nat) (l : List Int) (y z : Int) (hown : OwnI W base v n l) (hs : act.eval s = v) (hx : act.eval x = .slice (some ⟨W.heap.size, 0, none⟩) 1 1) (hy : InR y) (hz : InR z) (hl : n + 1 ≤ 1000000000) (hbase : base ≤ W.heap.size)
    (h : ∀ v' w', OwnI w' base v' (n + 1) (l ++ [y, z]) → W.grownBy w' v.ownBlock → wpList Try.prog ops Q rest (act.put o.dst v') w') : wpList Try.prog ops Q (o :: rest) act (W.alloc (.cells #[.int .i64 y, .int .i64 z] T')) :=
  appW hgd s x _ _ _ 2 16 info_iv Try.underlying133 rfl (by decide) (by decide) ho base W T' v n 1 l [y, z] _ rfl rfl hown hs hx (fun u hu => by simp at hu; rcases hu with rfl | rfl <;> assumption) hl hbase h
theorem l_eqInterval_same2 (a b : Int) (w : World) : Calls Try.prog 39 #[.agg #[.int .i64 a, .int .i64 b], .agg #[.int .i64 a, .int .i64 b]] w fun e w' => e = .returned (.bool true) ∧ Later w w' :=
  (l_eqInterval a b a b w).mono fun e w' ⟨h, k⟩ => ⟨h.trans (ret_b (by simp)), k⟩
/-- what marking leaves -/
def Marked2 (w : World) (base : Nat) (v : Value) (n : Nat) (l : List Int) (e : Ending) (w' : World) : Prop :=
  e = .returned (.int .i64 (1 + 2 * (n : Int))) ∧ OwnI w' base v n (mrk2 l n) ∧ w.grownBy w' v.ownBlock
end Go.Proofs.Ytdhoiiejcmnmbaa
namespace Go.Proofs.Ytdhoiiejcmnmbaa
open Go.RowKit
set_option maxHeartbeats 4000000
set_option linter.unusedVariables false
set_option linter.unusedSimpArgs false
/-- what the energies along a run leave -/
def GivesI (w : World) (n : Nat) (l : List Int) (c : Int) (e : Ending) (w' : World) : Prop :=
  ∃ v, e = .returned (.tuple #[v, .int .i64 c]) ∧ OwnI w' w.heap.size v n l ∧ Later w w'
theorem sgs_kept {w w' : World} {a : Option Addr} {n : Nat} {L : List Sg} {row : Option Nat} (h : Sgs w a n L) (hg : w.grownBy w' row) (hne : ∀ x, a = some x → row ≠ some x.block) : Sgs w' a n L := by
  obtain ⟨h1, h2, h3, h4⟩ := h
  refine ⟨h1, h2, fun k hk => ?_, h4⟩
  obtain ⟨b, off, rfl, hc⟩ := h3 k hk
  exact ⟨b, off, rfl, fun j hj => hg.cell (hc j hj) (fun e => hne _ rfl e.symm)⟩
theorem later_kept {w a b : World} {r : Option Nat} (h : Later w a) (hg : a.grownBy b r) (hr : ∀ k, r = some k → w.heap.size ≤ k) : Later w b := Below.grown h hg h.size hr
theorem ea_bad1 {L : List Sg} {f c a b : Int} (h : enB a b = false) : eaE L f c a b = 1 ∧ eaN L f c a b = 0 ∧ eaV L f c a b = [] := by
  have e : eaE L f c a b = 1 := by unfold eaE; rw [h]; rfl
  exact ⟨e, by unfold eaN; rw [e]; rfl, by unfold eaV; rw [e]; rfl⟩
theorem ea_bad2 {L : List Sg} {f c a b : Int} (h : enB a b = true) (h2 : sgE L f c ≠ 0) : eaE L f c a b = sgE L f c ∧ eaN L f c a b = 0 ∧ eaV L f c a b = [] := by
  have e : eaE L f c a b = sgE L f c := by unfold eaE; rw [h, if_pos rfl, if_neg h2]
  exact ⟨e, by unfold eaN; rw [e, if_neg h2], by unfold eaV; rw [e, if_neg h2]⟩
theorem ea_at {L : List Sg} {f c : Nat} {a b : Int} (h : enB a b = true) (h2 : sgE L (f : Int) (c : Int) = 0) : eaE L f c a b = alE (runS L f c) a b c := by
  unfold eaE; rw [h, if_pos rfl, if_pos h2]; simp
theorem ea_stop {L : List Sg} {f c : Nat} {a b : Int} (h : enB a b = true) (h2 : sgE L (f : Int) (c : Int) = 0) (h3 : alE (runS L f c) a b c ≠ 0) : eaE L f c a b = alE (runS L f c) a b c ∧ eaN L f c a b = 0 ∧ eaV L f c a b = [] := by
  have e := ea_at h h2
  exact ⟨e, by unfold eaN; rw [e, if_neg h3], by unfold eaV; rw [e, if_neg h3]⟩
theorem ea_fin {L : List Sg} {f c : Nat} {a b : Int} (h : enB a b = true) (h2 : sgE L (f : Int) (c : Int) = 0) (h3 : alE (runS L f c) a b c = 0) : eaE L f c a b = 0 ∧ eaN L f c a b = c ∧ eaV L f c a b = flF (runS L f c) a b c := by
  have e := ea_at h h2
  rw [h3] at e
  exact ⟨e, by unfold eaN; rw [e]; rfl, by unfold eaV; rw [e]; rfl⟩
theorem i_energyBehind_ok (x y : Int) (w : World) (h : x ≤ y) (hc : codE x y = 0) :
    Calls Try.prog 136 #[.agg #[.int .i64 x, .int .i64 y]] w fun e w' => e = .returned (.tuple #[.agg #[.int .i64 x, .int .i64 y], .int .i64 0]) ∧ Later w w' := by
  have := i_energyBehind x y w h; rw [hc] at this; exact this
theorem i_energyBehind_bad (x y c : Int) (w : World) (h : x ≤ y) (hc : codE x y = c) (h0 : c ≠ 0) :
    Calls Try.prog 136 #[.agg #[.int .i64 x, .int .i64 y]] w fun e w' => e = .returned (.tuple #[.agg #[.int .i64 0, .int .i64 0], .int .i64 c]) ∧ Later w w' := by
  have := i_energyBehind x y w h
  rw [hc, show okV c x = 0 by unfold okV; rw [if_neg h0], show okV c y = 0 by unfold okV; rw [if_neg h0]] at this; exact this
theorem own_ne {v : Value} {w : World} {base g : Nat} {n : Nat} {l : List Int} (h : OwnI w base v n l) (hg : g < base) : v.ownBlock ≠ some g := fun e => by have := (h.lt g e).1; omega
theorem i_EnergyAlong (s : Option Addr) (n cap : Nat) (L : List Sg) (f c a b : Int) (w : World) (hs : Sgs w s n L) :
    Calls Try.prog 124 #[.agg #[.slice s n cap], .int .i64 f, .int .i64 c, .agg #[.int .i64 a, .int .i64 b]] w (GivesI w (eaN L f c a b) (eaV L f c a b) (eaE L f c a b)) := by
  have HS := Lib.hid hs
  have HL := Lib.hid hs.1
  clear hs
  cases he : enB a b
  · have T := Lib.hid (ea_bad1 (L := L) (f := f) (c := c) he)
    go_enter Try.func124, Try.ntmps124
    go_wp2_with (go_at_call 64; refine (i_IsEnergy _ _ _).mono ?_; rintro e w1 ⟨rfl, hb⟩; obtain ⟨H, hcc, hff, hzz⟩ := later_facts hb; clear hb; (try simp at hzz); (try simp only [World.heap_drewN, World.cell?_drewN, World.frozen?_drewN] at hcc hff); have hz0 : w.heap.size < w1.heap.size := (by omega); (try (have hz1 : w.heap.size + 1 < w1.heap.size := (by omega))); (try (have hz2 : w.heap.size + 1 + 1 < w1.heap.size := (by omega))); (try (have hz3 : w.heap.size + 1 + 1 + 1 < w1.heap.size := (by omega))); (try (have hz4 : w.heap.size + 1 + 1 + 1 + 1 < w1.heap.size := (by omega))))
    go_ret2
    exact ⟨.slice none 0 0, by rw [T.out.1]; rfl, by rw [T.out.2.1, T.out.2.2]; exact ownW_none _ _ _ _, (by repeat (first | (with_reducible exact Later.refl _) | (with_reducible exact Hid.out (by assumption)) | (with_reducible refine Later.alloc ?_ _) | (with_reducible refine Later.setCell ?_ (by simp; omega) _) | (with_reducible refine Later.setCell ?_ (by simp) _) | (with_reducible refine Later.drewN ?_ _) | (with_reducible refine Later.drew ?_) | (with_reducible refine Later.trans ?_ (Hid.out (by assumption)))))⟩
  · by_cases hz : sgE L f c = 0
    · obtain ⟨hv, f', c', rfl, rfl, hf, hc⟩ := sgE_ok hz
      obtain ⟨R, hR⟩ : ∃ R, R = runS L f' c' := ⟨_, rfl⟩
      have hRl : R.length = c' := by rw [hR, runS_len]
      have hok : okB R R.length = true := by rw [hR]; exact runS_okB L f' c' ((layB_iff L).1 hv).2.2.1 (by omega)
      have HSV : Hid (sgV L (f' : Int) (c' : Int) = R) := Lib.hid (by unfold sgV; rw [if_pos hz, hR]; simp)
      have HE := Lib.hid hz
      have HST : Hid (∀ k, k < c' → alE R a b k = 0 → cdK R a b k ≠ 0 → eaE L f' c' a b = cdK R a b k ∧ eaN L f' c' a b = 0 ∧ eaV L f' c' a b = []) := Lib.hid (fun k hk h0 h1 => by
        have e : alE R a b c' = cdK R a b k := fstB_stop _ _ _ h0 hk h1
        rw [hR] at e h1
        have := ea_stop he hz (by rw [e]; exact h1)
        rw [e] at this; rw [hR]; exact this)
      have HFI : Hid (alE R a b c' = 0 → eaE L f' c' a b = 0 ∧ eaN L f' c' a b = c' ∧ eaV L f' c' a b = flF R a b c') := Lib.hid (fun h0 => by rw [hR] at h0 ⊢; exact ea_fin he hz h0)
      have hab := (enB_iff a b).1 he
      have HRL := Lib.hid hRl; have HOK := Lib.hid hok; have HAB := Lib.hid hab
      clear hR hz hok hRl hab hv hf
      go_enter Try.func124, Try.ntmps124
      go_upto_region 1 with (fail)
      refine into (Held [(w.heap.size + 1, 0, .int .i64 a), (w.heap.size + 1, 1, .int .i64 b), (w.heap.size, 0, .slice s n cap)] w) (by first | exact (held_box (held_box (held_start w) w.heap.size [.slice s n cap] _ rfl) (w.heap.size + 1) [.int .i64 a, .int .i64 b] _ (by simp))) ?_
      intro W hW
      obtain ⟨p0, p1, p2, _⟩ := Held.s3 hW
      have HW := Lib.hid (Held.is hW)
      have hz0 := sg_cell_lt p2
      have hz1 := sg_cell_lt p0
      clear hW
      go_wp2_with (go_at_call 64; refine (i_IsEnergy _ _ _).mono ?_; rintro e w1 ⟨rfl, hb⟩; obtain ⟨H, hcc, hff, hzz⟩ := later_facts hb; clear hb; (try simp at hzz); (try simp only [World.heap_drewN, World.cell?_drewN, World.frozen?_drewN] at hcc hff))
      refine (i_segmentsAlong s n cap L f' c' _ (HS.out.later (by repeat (first | (with_reducible exact Later.refl _) | (with_reducible exact Hid.out (by assumption)) | (with_reducible refine Later.alloc ?_ _) | (with_reducible refine Later.setCell ?_ (by simp; omega) _) | (with_reducible refine Later.setCell ?_ (by simp) _) | (with_reducible refine Later.drewN ?_ _) | (with_reducible refine Later.drew ?_) | (with_reducible refine Later.trans ?_ (Hid.out (by assumption))))))).mono ?_
      rw [HE.out, HSV.out]
      rintro e w2 ⟨v, rfl, ho, hb⟩
      obtain ⟨ra, rc, rfl, hrc, hrs, hrb⟩ := ho.sgs
      have hrb2 : ∀ x, ra = some x → x.block < w2.heap.size := fun x e => by subst e; exact (ho.lt x.block rfl).2
      rw [HRL.out] at hrs
      generalize hq : R.length = q
      obtain rfl : q = c' := by rw [← hq]; exact HRL.out
      clear hq
      have RS2 := Lib.hid hrs; have RB := Lib.hid hrb2
      have hq0 : w.heap.size + 1 < w2.heap.size := by have := hb.size; omega
      have hcd : ∀ o, w2.cell? ⟨w.heap.size + 1, o, none⟩ = W.cell? ⟨w.heap.size + 1, o, none⟩ := fun o => (hb.cell (p := ⟨w.heap.size + 1, o, none⟩) (by show w.heap.size + 1 < w1.heap.size; omega)).trans (hcc _ _ hz1)
      have H2 := Lib.hid hb
      clear hb ho hrs hrb hrb2 hrc
      go_wp2_with fail
      refine (i_coasting a b _).mono ?_
      rintro e w3 ⟨g, rfl, hg, hF, hb⟩
      have H3 : Hid (Later w w3) := Lib.hid (Later.trans (by repeat (first | (with_reducible exact Later.refl _) | (with_reducible exact Hid.out (by assumption)) | (with_reducible refine Later.alloc ?_ _) | (with_reducible refine Later.setCell ?_ (by simp; omega) _) | (with_reducible refine Later.setCell ?_ (by simp) _) | (with_reducible refine Later.drewN ?_ _) | (with_reducible refine Later.drew ?_) | (with_reducible refine Later.trans ?_ (Hid.out (by assumption))))) hb)
      have F3 := Lib.hid hF
      have RS3 := Lib.hid (RS2.out.later hb)
      have NG : Hid (∀ x, ra = some x → (some g : Option Nat) ≠ some x.block) := Lib.hid (fun x e h => by have := RB.out x e; have := Option.some.inj h; omega)
      have hgw : w.heap.size ≤ g := by omega
      have HG2 := Lib.hid hg
      clear hb hF hg hcd hcc hff hzz p0 p1 p2 hz0 hz1 hq0
      unfold sumF
      go_wp2_with fail
      go_loopw [13, 35] (fun v i wr => ∃ k : Nat, k ≤ q ∧ i = .int .i64 k ∧ OwnI wr (g + 1) v k (flF R a b k) ∧ alE R a b k = 0 ∧ Fr g [.int .i64 (a + clL R k), .int .i64 (b + clH R k)] wr ∧ Sgs wr ra q R ∧ Later w wr) (fun _ i _ => q - (intOf i).toNat)
      case atStart => exact ⟨0, by omega, rfl, ownW_none _ _ _ _, rfl, by rw [clL_0, clH_0, Int.add_zero, Int.add_zero]; exact F3.out, RS3.out, H3.out⟩
      case round =>
        clear RS2 RS3 F3 H3
        obtain ⟨k, hk, rfl, ho, hal, hF, hrs, hlw⟩ := hrel
        have HO := Lib.hid ho; have HA := Lib.hid hal; have HF := Lib.hid hF; have HRS := Lib.hid hrs; have HW2 := Lib.hid hlw
        have hlt0 := hF.lt
        clear ho hal hF hrs hlw
        by_cases hlt : k < q
        · have hseg : sgB (sx R k) = true := okB_at R R.length k (Nat.le_refl _) (by rw [HRL.out]; exact hlt) HOK.out
          obtain ⟨d1, d2, d3⟩ := cl_bd R HOK.out k (by rw [HRL.out]; exact hk)
          obtain ⟨d4, d5, d6⟩ := cl_bd R HOK.out (k + 1) (by rw [HRL.out]; exact hlt)
          obtain ⟨x, hx⟩ : ∃ x, x = a + clL R (k + 1) := ⟨_, rfl⟩
          obtain ⟨y, hy⟩ : ∃ y, y = b + clH R (k + 1) := ⟨_, rfl⟩
          have q1 : a + clL R k + chL (sx R k) = x := by rw [hx, clL_succ R k (by rw [HRL.out]; exact hlt)]; omega
          have q2 : b + clH R k + chH (sx R k) = y := by rw [hy, clH_succ R k (by rw [HRL.out]; exact hlt)]; omega
          obtain ⟨ab1, ab2, ab3⟩ := HAB.out
          have hxy : x ≤ y := by omega
          have hx1 : InR x := ⟨by omega, by omega⟩
          have hy1 : InR y := ⟨by omega, by omega⟩
          have HX := Lib.hid hx; have HY := Lib.hid hy
          have HC : Hid (cdK R a b k = codE x y) := Lib.hid (by unfold cdK; rw [hx, hy])
          have b1 : -1000000000000 ≤ a + clL R k := by omega
          have b2 : a + clL R k ≤ 1000000000000 := by omega
          have b3 : -1000000000000 ≤ b + clH R k := by omega
          have b4 : b + clH R k ≤ 1000000000000 := by omega
          clear d1 d2 d3 d4 d5 d6 ab1 ab2 ab3 hx hy
          obtain ⟨bb, off, rfl, hb1, hc7⟩ := HRS.out.at k hlt
          obtain ⟨c0, c1, c2, c3, c4, c5, c6⟩ := hc7
          go_wp2_with fail
          refine (i_coasting1 (sx R k) g (a + clL R k) (b + clH R k) _ hseg (fr_later HF.out (by repeat (first | (with_reducible exact Later.refl _) | (with_reducible exact Hid.out (by assumption)) | (with_reducible refine Later.alloc ?_ _) | (with_reducible refine Later.setCell ?_ (by simp; omega) _) | (with_reducible refine Later.setCell ?_ (by simp) _) | (with_reducible refine Later.drewN ?_ _) | (with_reducible refine Later.drew ?_) | (with_reducible refine Later.trans ?_ (Hid.out (by assumption)))))) b1 b2 b3 b4).mono ?_
          rw [q1, q2]
          rintro e w5 ⟨rfl, hF5, hg5⟩
          have F5 := Lib.hid hF5
          have O5 := Lib.hid ((HO.out.later (show Later wr _ from (by repeat (first | (with_reducible exact Later.refl _) | (with_reducible exact Hid.out (by assumption)) | (with_reducible refine Later.alloc ?_ _) | (with_reducible refine Later.setCell ?_ (by simp; omega) _) | (with_reducible refine Later.setCell ?_ (by simp) _) | (with_reducible refine Later.drewN ?_ _) | (with_reducible refine Later.drew ?_) | (with_reducible refine Later.trans ?_ (Hid.out (by assumption))))))).kept hg5 (fun j hj e => own_ne HO.out (Nat.lt_succ_self _) (by rw [hj, e])))
          have S5 := Lib.hid (sgs_kept (HRS.out.later (show Later wr _ from (by repeat (first | (with_reducible exact Later.refl _) | (with_reducible exact Hid.out (by assumption)) | (with_reducible refine Later.alloc ?_ _) | (with_reducible refine Later.setCell ?_ (by simp; omega) _) | (with_reducible refine Later.setCell ?_ (by simp) _) | (with_reducible refine Later.drewN ?_ _) | (with_reducible refine Later.drew ?_) | (with_reducible refine Later.trans ?_ (Hid.out (by assumption))))))) hg5 NG.out)
          have W5 : Hid (Later w w5) := Lib.hid (later_kept (show Later w _ from (by repeat (first | (with_reducible exact Later.refl _) | (with_reducible exact Hid.out (by assumption)) | (with_reducible refine Later.alloc ?_ _) | (with_reducible refine Later.setCell ?_ (by simp; omega) _) | (with_reducible refine Later.setCell ?_ (by simp) _) | (with_reducible refine Later.drewN ?_ _) | (with_reducible refine Later.drew ?_) | (with_reducible refine Later.trans ?_ (Hid.out (by assumption)))))) hg5 (fun j e => by cases e; exact hgw))
          have hg5s := hF5.lt
          clear hF5 hg5 c0 c1 c2 c3 c4 c5 c6 q1 q2 HO HF HRS
          by_cases hcd : codE x y = 0
          · go_wp2_with fail
            refine (i_energyBehind_ok x y _ hxy hcd).mono ?_
            rintro e w6 ⟨rfl, hb6⟩
            have H6 := Lib.hid hb6
            have hz6 := hb6.size
            clear hb6
            go_wp2_with (at_builtin; go_must (refine appI rfl _ _ rfl (g + 1) _ _ _ k (flF R a b k) x y (O5.out.later (by repeat (first | (with_reducible exact Later.refl _) | (with_reducible exact Hid.out (by assumption)) | (with_reducible refine Later.alloc ?_ _) | (with_reducible refine Later.setCell ?_ (by simp; omega) _) | (with_reducible refine Later.setCell ?_ (by simp) _) | (with_reducible refine Later.drewN ?_ _) | (with_reducible refine Later.drew ?_) | (with_reducible refine Later.trans ?_ (Hid.out (by assumption)))))) rfl (by first | rfl | (rw [World.size_alloc]; rfl)) hx1 hy1 (by omega) (by simp; omega) ?_; intro v' w7 ho hg))
            have O7 := Lib.hid ho
            have F7 := Lib.hid (fr_kept (fr_later F5.out (show Later w5 _ from (by repeat (first | (with_reducible exact Later.refl _) | (with_reducible exact Hid.out (by assumption)) | (with_reducible refine Later.alloc ?_ _) | (with_reducible refine Later.setCell ?_ (by simp; omega) _) | (with_reducible refine Later.setCell ?_ (by simp) _) | (with_reducible refine Later.drewN ?_ _) | (with_reducible refine Later.drew ?_) | (with_reducible refine Later.trans ?_ (Hid.out (by assumption))))))) hg (own_ne O5.out (Nat.lt_succ_self g)))
            have S7 := Lib.hid (sgs_kept (S5.out.later (show Later w5 _ from (by repeat (first | (with_reducible exact Later.refl _) | (with_reducible exact Hid.out (by assumption)) | (with_reducible refine Later.alloc ?_ _) | (with_reducible refine Later.setCell ?_ (by simp; omega) _) | (with_reducible refine Later.setCell ?_ (by simp) _) | (with_reducible refine Later.drewN ?_ _) | (with_reducible refine Later.drew ?_) | (with_reducible refine Later.trans ?_ (Hid.out (by assumption))))))) hg (fun z e h => by have h1 := (O5.out.lt z.block h).1; have h2 := RB.out z e; have h3 := HG2.out; omega))
            have W7 : Hid (Later w w7) := Lib.hid (later_kept (show Later w _ from (by repeat (first | (with_reducible exact Later.refl _) | (with_reducible exact Hid.out (by assumption)) | (with_reducible refine Later.alloc ?_ _) | (with_reducible refine Later.setCell ?_ (by simp; omega) _) | (with_reducible refine Later.setCell ?_ (by simp) _) | (with_reducible refine Later.drewN ?_ _) | (with_reducible refine Later.drew ?_) | (with_reducible refine Later.trans ?_ (Hid.out (by assumption)))))) hg (fun j e => by have := (O5.out.lt j e).1; omega))
            have A7 : Hid (alE R a b (k + 1) = 0) := Lib.hid ((fstB_succ _ _ HA.out).trans (HC.out.trans hcd))
            clear ho hg
            go_roundw
            case rel => exact ⟨k + 1, by omega, by go_num, by rw [flF_succ, ← HX.out, ← HY.out]; exact O7.out, A7.out, by rw [← HX.out, ← HY.out]; exact F7.out, S7.out, W7.out⟩
            case measure => simp [intOf]; omega
          · have T := Lib.hid (HST.out k hlt HA.out (by rw [HC.out]; exact hcd))
            have HCB : (codE x y != 0) = true := by simpa using hcd
            go_wp2_with fail
            refine (i_energyBehind_bad x y _ _ hxy rfl hcd).mono ?_
            rintro e w6 ⟨rfl, hb6⟩
            have H6 := Lib.hid hb6
            clear hb6 hcd
            go_wp2_with fail
            go_ret2
            exact ⟨.slice none 0 0, by rw [T.out.1, HC.out]; rfl, by rw [T.out.2.1, T.out.2.2]; exact ownW_none _ _ _ _, (by repeat (first | (with_reducible exact Later.refl _) | (with_reducible exact Hid.out (by assumption)) | (with_reducible refine Later.alloc ?_ _) | (with_reducible refine Later.setCell ?_ (by simp; omega) _) | (with_reducible refine Later.setCell ?_ (by simp) _) | (with_reducible refine Later.drewN ?_ _) | (with_reducible refine Later.drew ?_) | (with_reducible refine Later.trans ?_ (Hid.out (by assumption)))))⟩
        · obtain rfl : k = q := by omega
          have T := Lib.hid (HFI.out HA.out)
          go_wp2_with fail
          go_ret2
          exact ⟨_, by rw [T.out.1]; rfl, by rw [T.out.2.1, T.out.2.2]; exact HO.out.mono (by omega), HW2.out⟩
    · have T := Lib.hid (ea_bad2 he hz)
      have HZ : (sgE L f c != 0) = true := by simpa using hz
      clear hz
      go_enter Try.func124, Try.ntmps124
      go_upto_region 1 with (fail)
      refine into (Held [(w.heap.size + 1, 0, .int .i64 a), (w.heap.size + 1, 1, .int .i64 b), (w.heap.size, 0, .slice s n cap)] w) (by first | exact (held_box (held_box (held_start w) w.heap.size [.slice s n cap] _ rfl) (w.heap.size + 1) [.int .i64 a, .int .i64 b] _ (by simp))) ?_
      intro W hW
      obtain ⟨p0, p1, p2, _⟩ := Held.s3 hW
      have HW := Lib.hid (Held.is hW)
      have hz0 := sg_cell_lt p2
      clear hW
      go_wp2_with (go_at_call 64; refine (i_IsEnergy _ _ _).mono ?_; rintro e w1 ⟨rfl, hb⟩; obtain ⟨H, hcc, hff, hzz⟩ := later_facts hb; clear hb; (try simp at hzz); (try simp only [World.heap_drewN, World.cell?_drewN, World.frozen?_drewN] at hcc hff))
      refine (i_segmentsAlong s n cap L f c _ (HS.out.later (by repeat (first | (with_reducible exact Later.refl _) | (with_reducible exact Hid.out (by assumption)) | (with_reducible refine Later.alloc ?_ _) | (with_reducible refine Later.setCell ?_ (by simp; omega) _) | (with_reducible refine Later.setCell ?_ (by simp) _) | (with_reducible refine Later.drewN ?_ _) | (with_reducible refine Later.drew ?_) | (with_reducible refine Later.trans ?_ (Hid.out (by assumption))))))).mono ?_
      rintro e w2 ⟨v, rfl, ho, hb⟩
      have H2 := Lib.hid hb
      clear hb ho
      go_wp2_with fail
      go_ret2
      exact ⟨.slice none 0 0, by rw [T.out.1]; rfl, by rw [T.out.2.1, T.out.2.2]; exact ownW_none _ _ _ _, (by repeat (first | (with_reducible exact Later.refl _) | (with_reducible exact Hid.out (by assumption)) | (with_reducible refine Later.alloc ?_ _) | (with_reducible refine Later.setCell ?_ (by simp; omega) _) | (with_reducible refine Later.setCell ?_ (by simp) _) | (with_reducible refine Later.drewN ?_ _) | (with_reducible refine Later.drew ?_) | (with_reducible refine Later.trans ?_ (Hid.out (by assumption)))))⟩
end Go.Proofs.Ytdhoiiejcmnmbaa
namespace Go.Proofs.Ytdhoiiejcmnmbaa
open Go.RowKit
set_option maxHeartbeats 4000000
set_option linter.unusedVariables false
set_option linter.unusedSimpArgs false
/-- the boxes of the walk: the layout, the block, the result, the bounds, the closure's sum, the sum -/
structure EbS (w : World) (B g S : Nat) (a : Option Addr) (n cap : Nat) (L : List Sg) (v : List Value) (lo hi p q x y : Int) (W : World) : Prop where
  l : Fr w.heap.size [.slice a n cap] W
  b : Fr (w.heap.size + 1) v W
  r : Fr (w.heap.size + 1 + 1) [.int .i64 0, .int .i64 0] W
  B' : Fr B [.int .i64 lo, .int .i64 hi] W
  g' : Fr g [.int .i64 p, .int .i64 q] W
  s : Fr S [.int .i64 x, .int .i64 y] W
  sg : Sgs W a n L
  lt : Later w W
/-- the order of the blocks -/
def EbO (w : World) (B g S : Nat) (a : Option Addr) : Prop := w.heap.size + 1 + 1 < B ∧ B < g ∧ g < S ∧ ∀ z, a = some z → z.block < w.heap.size
theorem EbS.later {w : World} {B g S : Nat} {a : Option Addr} {n cap : Nat} {L : List Sg} {v : List Value} {lo hi p q x y : Int} {W W' : World} (h : EbS w B g S a n cap L v lo hi p q x y W) (k : Later W W') : EbS w B g S a n cap L v lo hi p q x y W' :=
  ⟨fr_later h.l k, fr_later h.b k, fr_later h.r k, fr_later h.B' k, fr_later h.g' k, fr_later h.s k, h.sg.later k, h.lt.trans k⟩
theorem EbS.closure {w : World} {B g S : Nat} {a : Option Addr} {n cap : Nat} {L : List Sg} {v : List Value} {lo hi p q x y p' q' : Int} {W W' : World} (h : EbS w B g S a n cap L v lo hi p q x y W) (o : EbO w B g S a)
    (F : Fr g [.int .i64 p', .int .i64 q'] W') (k : W.grownBy W' (some g)) : EbS w B g S a n cap L v lo hi p' q' x y W' := by
  obtain ⟨o1, o2, o3, o4⟩ := o
  have ne : ∀ m, m ≠ g → (some g : Option Nat) ≠ some m := fun m hm e => hm (Option.some.inj e).symm
  exact ⟨fr_kept h.l k (ne _ (by omega)), fr_kept h.b k (ne _ (by omega)), fr_kept h.r k (ne _ (by omega)), fr_kept h.B' k (ne _ (by omega)), F, fr_kept h.s k (ne _ (by omega)),
    sgs_kept h.sg k (fun z e => ne _ (by have := o4 z e; omega)), later_kept h.lt k (fun j e => by cases e; omega)⟩
theorem EbS.setS {w : World} {B g S : Nat} {a : Option Addr} {n cap : Nat} {L : List Sg} {v : List Value} {lo hi p q x y : Int} {W : World} (h : EbS w B g S a n cap L v lo hi p q x y W) (o : EbO w B g S a) (x' y' : Int) :
    EbS w B g S a n cap L v lo hi p q x' y' ((W.setCell ⟨S, 0, none⟩ (.int .i64 x')).setCell ⟨S, 1, none⟩ (.int .i64 y')) := by
  obtain ⟨o1, o2, o3, o4⟩ := o
  have ne : ∀ m, m ≠ S → (some S : Option Nat) ≠ some m := fun m hm e => hm (Option.some.inj e).symm
  have k : W.grownBy ((W.setCell ⟨S, 0, none⟩ (.int .i64 x')).setCell ⟨S, 1, none⟩ (.int .i64 y')) (some S) := grown_set1 (grown_set W S 0 _) 1 _
  exact ⟨fr_kept h.l k (ne _ (by omega)), fr_kept h.b k (ne _ (by omega)), fr_kept h.r k (ne _ (by omega)), fr_kept h.B' k (ne _ (by omega)), fr_kept h.g' k (ne _ (by omega)), fr_set (fr_set h.s 0 _) 1 _,
    sgs_kept h.sg k (fun z e => ne _ (by have := o4 z e; omega)), later_kept h.lt k (fun j e => by cases e; omega)⟩
theorem EbS.setB {w : World} {B g S : Nat} {a : Option Addr} {n cap : Nat} {L : List Sg} {v : List Value} {lo hi p q x y : Int} {W : World} (h : EbS w B g S a n cap L v lo hi p q x y W) (o : EbO w B g S a) (x' y' : Int) :
    EbS w B g S a n cap L v x' y' p q x y ((W.setCell ⟨B, 0, none⟩ (.int .i64 x')).setCell ⟨B, 1, none⟩ (.int .i64 y')) := by
  obtain ⟨o1, o2, o3, o4⟩ := o
  have ne : ∀ m, m ≠ B → (some B : Option Nat) ≠ some m := fun m hm e => hm (Option.some.inj e).symm
  have k : W.grownBy ((W.setCell ⟨B, 0, none⟩ (.int .i64 x')).setCell ⟨B, 1, none⟩ (.int .i64 y')) (some B) := grown_set1 (grown_set W B 0 _) 1 _
  exact ⟨fr_kept h.l k (ne _ (by omega)), fr_kept h.b k (ne _ (by omega)), fr_kept h.r k (ne _ (by omega)), fr_set (fr_set h.B' 0 _) 1 _, fr_kept h.g' k (ne _ (by omega)), fr_kept h.s k (ne _ (by omega)),
    sgs_kept h.sg k (fun z e => ne _ (by have := o4 z e; omega)), later_kept h.lt k (fun j e => by cases e; omega)⟩
theorem gh_slow {L : List Sg} {F : List Int} {b f h c n : Nat} {y : Sg} {R : List Sg} (B : Bl L F b f h c n y R) (hs : slowB L F b = true) :
    ghE y = 0 ∧ 1 ≤ ghV y ∧ ghV y ≤ 10000000000 ∧ max (ndN R c) (-clL R c) = loK L F b ∧ min (hgK R c) (ghV y - clH R c) = hiK L F b ∧ okK L F b = decide (loK L F b ≤ hiK L F b) := by
  have h1 := ndN_end R c
  have h2 := hgK_end R c
  have hw := wk_bd y B.ysg
  have hlo : max (ndN R c) (-clL R c) = loK L F b := by unfold loK; rw [← B.Re, ← B.cn]; omega
  have hok : okK L F b = decide (loK L F b ≤ hiK L F b) := by unfold okK; rw [hs]; simp
  unfold slowB at hs
  rw [← B.ye] at hs
  rcases B.yk with k1 | k1
  · have e1 : ghE y = 0 := by unfold ghE; rw [if_pos k1]
    have e2 : ghV y = 10000000000 := by unfold ghV; rw [if_pos k1]
    have hb : brk y.k = false := by rw [brk_no]; omega
    refine ⟨e1, by omega, by omega, hlo, ?_, hok⟩
    unfold hiK
    rw [← B.ye, hb, ← B.Re, ← B.cn, e2]
    simp
    omega
  · have k0 : y.k ≠ 1 := by omega
    have hb : brk y.k = true := by rw [brk_iff]; exact k1
    rw [hb] at hs
    simp at hs
    have eb : brE y = 0 := by unfold brE; rw [if_pos B.ysg, if_pos hb]
    have es : slE y = 0 := by unfold slE; rw [if_pos eb, if_pos hs]
    have e1 : ghE y = 0 := by unfold ghE; rw [if_neg k0, es]
    have e2 : ghV y = min (wkL y) 10000000000 := by unfold ghV gsV; rw [if_neg k0, es]; rfl
    refine ⟨e1, by omega, by omega, hlo, ?_, hok⟩
    unfold hiK
    rw [← B.ye, if_pos hb, ← B.Re, ← B.cn, e2]
    omega
theorem gh_not {L : List Sg} {F : List Int} {b f h c n : Nat} {y : Sg} {R : List Sg} (B : Bl L F b f h c n y R) (hs : slowB L F b = false) : ghE y = 5 ∧ okK L F b = false := by
  have hok : okK L F b = false := by unfold okK; rw [hs]; rfl
  unfold slowB at hs
  rw [← B.ye] at hs
  simp at hs
  obtain ⟨hb, hs⟩ := hs
  have k0 : y.k ≠ 1 := by rw [brk_iff] at hb; omega
  have eb : brE y = 0 := by unfold brE; rw [if_pos B.ysg, if_pos hb]
  have es : slE y = 5 := by unfold slE; rw [if_pos eb, if_neg (by omega)]
  exact ⟨by unfold ghE; rw [if_neg k0, es], hok⟩
/-- the code of the bounds of a block -/
def kE (L : List Sg) (F : List Int) (b : Nat) : Int := if okK L F b = true then 0 else 5
set_option maxRecDepth 100000 in
theorem i_entryBounds (a : Option Addr) (n cap : Nat) (L : List Sg) (F : List Int) (b : Nat) (w : World) (hs : Sgs w a n L) (hcn : n ≤ cap) (hv : layB L = true) (hk : bkC L F = true) (hb : b < F.length) :
    Calls Try.prog 94 #[.agg #[.slice a n cap], scV (sec L F b)] w fun e w' => e = .returned (.tuple #[.agg #[.int .i64 (okV (kE L F b) (loK L F b)), .int .i64 (okV (kE L F b) (hiK L F b))], .int .i64 (kE L F b)]) ∧ Later w w' := by
  obtain ⟨f, h, c, y, R, hB⟩ := bl_of hv hk hb hs.1
  have HSC : scV (sec L F b) = .agg #[.int .i64 b, .int .i64 f, .int .i64 h, .int .i64 (stK L F b), .int .i64 (lnK L F b)] := by
    unfold scV sec; rw [hB.end', hB.fe]; simp
  rw [HSC]
  have HS := Lib.hid hs; have HB := Lib.hid hB
  have hfh := hB.le; have hhn := hB.lt; have h24 := hB.n24
  have hch : c = h - f := hB.ce
  generalize stK L F b = st
  generalize lnK L F b = ln
  have HA : Hid (∀ z, a = some z → z.block < w.heap.size) := Lib.hid (fun z e => by obtain ⟨b', o', e', hb', _⟩ := hs.at 0 (by omega); rw [e'] at e; cases e; exact hb')
  clear hs hB HSC hv hk
  go_enter Try.func94, Try.ntmps94
  go_upto_region 1 with (fail)
  refine into (fun W => Fr w.heap.size [.slice a n cap] W ∧ Fr (w.heap.size + 1) [.int .i64 b, .int .i64 f, .int .i64 h, .int .i64 st, .int .i64 ln] W ∧ Fr (w.heap.size + 1 + 1) [.int .i64 0, .int .i64 0] W ∧ Later w W) ⟨?_, ?_, ?_, (by repeat (first | (with_reducible exact Later.refl _) | (with_reducible exact Hid.out (by assumption)) | (with_reducible refine Later.alloc ?_ _) | (with_reducible refine Later.setCell ?_ (by simp; omega) _) | (with_reducible refine Later.setCell ?_ (by simp) _) | (with_reducible refine Later.drewN ?_ _) | (with_reducible refine Later.drew ?_) | (with_reducible refine Later.trans ?_ (Hid.out (by assumption)))))⟩ ?_
  · exact fr_alloc (X := w) (l := [.slice a n cap]) (T := 47) (Later.alloc (Later.alloc (Later.refl _) _) _)
  · have F1 := fr_alloc (X := w.alloc (.cells [Value.slice a n cap].toArray 47)) (l := [.int .i64 b, .int .i64 f, .int .i64 h, .int .i64 st, .int .i64 ln]) (T := 106) (Later.alloc (Later.refl _) (.cells [Value.int .i64 0, .int .i64 0].toArray 25))
    simp only [World.size_alloc] at F1
    exact F1
  · have F1 := fr_alloc (X := (w.alloc (.cells [Value.slice a n cap].toArray 47)).alloc (.cells [Value.int .i64 b, .int .i64 f, .int .i64 h, .int .i64 st, .int .i64 ln].toArray 106)) (l := [.int .i64 0, .int .i64 0]) (T := 25) (Later.refl _)
    simp only [World.size_alloc] at F1
    exact F1
  rintro W ⟨hl, hbk, hr, hlt⟩
  have HL := Lib.hid hl; have HBK := Lib.hid hbk; have HR := Lib.hid hr; have HLT := Lib.hid hlt
  have hzr := hr.lt
  clear hl hbk hr hlt
  go_wp2_with fail
  refine (i_coasting 0 0 _).mono ?_
  rintro e w3 ⟨g, rfl, hg, hF, hb3⟩
  have hgB : W.heap.size < g := by simp only [World.size_alloc] at hg; omega
  have hgS : g < w3.heap.size := hF.lt
  have HBX : Hid (Fr W.heap.size [.int .i64 0, .int .i64 10000000000] w3) := Lib.hid (fr_alloc hb3)
  have H3 : Hid (Later W w3) := Lib.hid (Later.trans (by repeat (first | (with_reducible exact Later.refl _) | (with_reducible exact Hid.out (by assumption)) | (with_reducible refine Later.alloc ?_ _) | (with_reducible refine Later.setCell ?_ (by simp; omega) _) | (with_reducible refine Later.setCell ?_ (by simp) _) | (with_reducible refine Later.drewN ?_ _) | (with_reducible refine Later.drew ?_) | (with_reducible refine Later.trans ?_ (Hid.out (by assumption))))) hb3)
  have F3 := Lib.hid hF
  have HO : Hid (EbO w W.heap.size g w3.heap.size a) := Lib.hid ⟨by omega, hgB, hgS, HA.out⟩
  obtain ⟨u1, u2, u3, u4, u5, _⟩ := Fr.o5 (fr_later HBK.out H3.out)
  obtain ⟨u6, _⟩ := Fr.o1 (fr_later HL.out H3.out)
  have hz1 : w.heap.size + 1 < w3.heap.size := by omega
  have hz0 : w.heap.size < w3.heap.size := by omega
  obtain ⟨b0, o0, rfl, hb0, _⟩ := HS.out.at 0 (by omega)
  have hfc : 1 ≤ cap - f := by omega
  clear hF hb3 hg
  unfold sumF
  go_wp2_with fail
  have hn0 : ((h : Int) - f).toNat = c := by omega
  have hcl : ((c : Nat) : Int) = (h : Int) - f := by omega
  go_loopw [24] (fun i wr => ∃ k : Nat, k ≤ c ∧ i = .int .i64 k ∧ EbS w W.heap.size g w3.heap.size (some ⟨b0, o0, none⟩) n cap L [.int .i64 b, .int .i64 f, .int .i64 h, .int .i64 st, .int .i64 ln] (ndN R k) (hgK R k) (clL R k) (clH R k) (clL R k) (clH R k) wr) (fun i _ => c - (intOf i).toNat)
  case atStart => exact ⟨0, by omega, rfl, fr_later HL.out (H3.out.trans (by repeat (first | (with_reducible exact Later.refl _) | (with_reducible exact Hid.out (by assumption)) | (with_reducible refine Later.alloc ?_ _) | (with_reducible refine Later.setCell ?_ (by simp; omega) _) | (with_reducible refine Later.setCell ?_ (by simp) _) | (with_reducible refine Later.drewN ?_ _) | (with_reducible refine Later.drew ?_) | (with_reducible refine Later.trans ?_ (Hid.out (by assumption)))))), fr_later HBK.out (H3.out.trans (by repeat (first | (with_reducible exact Later.refl _) | (with_reducible exact Hid.out (by assumption)) | (with_reducible refine Later.alloc ?_ _) | (with_reducible refine Later.setCell ?_ (by simp; omega) _) | (with_reducible refine Later.setCell ?_ (by simp) _) | (with_reducible refine Later.drewN ?_ _) | (with_reducible refine Later.drew ?_) | (with_reducible refine Later.trans ?_ (Hid.out (by assumption)))))), fr_later HR.out (H3.out.trans (by repeat (first | (with_reducible exact Later.refl _) | (with_reducible exact Hid.out (by assumption)) | (with_reducible refine Later.alloc ?_ _) | (with_reducible refine Later.setCell ?_ (by simp; omega) _) | (with_reducible refine Later.setCell ?_ (by simp) _) | (with_reducible refine Later.drewN ?_ _) | (with_reducible refine Later.drew ?_) | (with_reducible refine Later.trans ?_ (Hid.out (by assumption)))))), fr_later HBX.out (by repeat (first | (with_reducible exact Later.refl _) | (with_reducible exact Hid.out (by assumption)) | (with_reducible refine Later.alloc ?_ _) | (with_reducible refine Later.setCell ?_ (by simp; omega) _) | (with_reducible refine Later.setCell ?_ (by simp) _) | (with_reducible refine Later.drewN ?_ _) | (with_reducible refine Later.drew ?_) | (with_reducible refine Later.trans ?_ (Hid.out (by assumption))))), by rw [clL_0, clH_0]; exact fr_later F3.out (by repeat (first | (with_reducible exact Later.refl _) | (with_reducible exact Hid.out (by assumption)) | (with_reducible refine Later.alloc ?_ _) | (with_reducible refine Later.setCell ?_ (by simp; omega) _) | (with_reducible refine Later.setCell ?_ (by simp) _) | (with_reducible refine Later.drewN ?_ _) | (with_reducible refine Later.drew ?_) | (with_reducible refine Later.trans ?_ (Hid.out (by assumption))))), by rw [clL_0, clH_0]; exact fr_alloc (Later.refl _), HS.out.later (HLT.out.trans (H3.out.trans (by repeat (first | (with_reducible exact Later.refl _) | (with_reducible exact Hid.out (by assumption)) | (with_reducible refine Later.alloc ?_ _) | (with_reducible refine Later.setCell ?_ (by simp; omega) _) | (with_reducible refine Later.setCell ?_ (by simp) _) | (with_reducible refine Later.drewN ?_ _) | (with_reducible refine Later.drew ?_) | (with_reducible refine Later.trans ?_ (Hid.out (by assumption))))))), HLT.out.trans (H3.out.trans (by repeat (first | (with_reducible exact Later.refl _) | (with_reducible exact Hid.out (by assumption)) | (with_reducible refine Later.alloc ?_ _) | (with_reducible refine Later.setCell ?_ (by simp; omega) _) | (with_reducible refine Later.setCell ?_ (by simp) _) | (with_reducible refine Later.drewN ?_ _) | (with_reducible refine Later.drew ?_) | (with_reducible refine Later.trans ?_ (Hid.out (by assumption))))))⟩
  case round =>
    clear u1 u2 u3 u4 u5 u6
    obtain ⟨k, hk, rfl, hE⟩ := hrel
    have HE := Lib.hid hE
    have zs := hE.s.lt
    by_cases hlt : k < c
    · have hseg : sgB (sx R k) = true := okB_at R R.length k (Nat.le_refl _) (by rw [HB.out.Rl]; exact hlt) HB.out.Rok
      obtain ⟨d1, d2, d3⟩ := cl_bd R HB.out.Rok k (by rw [HB.out.Rl]; exact hk)
      obtain ⟨d4, d5, d6⟩ := cl_bd R HB.out.Rok (k + 1) (by rw [HB.out.Rl]; exact hlt)
      obtain ⟨d7, d8⟩ := ndN_bd R HB.out.Rok k (by rw [HB.out.Rl]; exact hk)
      have d9 := hgK_ge R HB.out.Rok k (by rw [HB.out.Rl]; exact hk)
      have d10 := hgK_le R k
      obtain ⟨X, hX⟩ : ∃ X, X = clL R (k + 1) := ⟨_, rfl⟩
      obtain ⟨Y, hY⟩ : ∃ Y, Y = clH R (k + 1) := ⟨_, rfl⟩
      have q1 : clL R k + chL (sx R k) = X := by rw [hX, clL_succ R k (by rw [HB.out.Rl]; exact hlt)]
      have q2 : clH R k + chH (sx R k) = Y := by rw [hY, clH_succ R k (by rw [HB.out.Rl]; exact hlt)]
      have HX := Lib.hid hX; have HY := Lib.hid hY
      rw [← hX] at d4 d5; rw [← hY] at d5 d6
      have HN : Hid (ndN R (k + 1) = max (ndN R k) (-X)) := Lib.hid (by rw [hX]; exact ndN_succ R k)
      have HG : Hid (hgK R (k + 1) = min (hgK R k) (10000000000 - Y)) := Lib.hid (by rw [hY]; exact hgK_succ R k)
      have HC1 := fun w => i_energiesBefore X Y 10000000000 w (by omega) (by omega) (by omega) (by omega) (by omega) (by omega)
      have HC2 := fun w => i_common (ndN R k) (hgK R k) (-X) (10000000000 - Y) w (by omega) (by omega) (by omega) (by omega) (by omega) (by omega) (by omega) (by omega)
      rw [← HN.out, ← HG.out] at HC2
      have b1 : -1000000000000 ≤ clL R k := by omega
      have b2 : clL R k ≤ 1000000000000 := by omega
      have b3 : -1000000000000 ≤ clH R k := by omega
      have b4 : clH R k ≤ 1000000000000 := by omega
      clear d1 d2 d3 d4 d5 d6 d7 d8 d9 d10 hX hY
      obtain ⟨b', o', hbb, hb', hc7⟩ := hE.sg.at (f + k) (by omega)
      simp only [Option.some.injEq, Addr.mk.injEq, and_true] at hbb
      obtain ⟨rfl, rfl⟩ := hbb
      obtain ⟨c0, c1, c2, c3, c4, c5, c6⟩ := hc7
      rw [show o0 + (f + k) * 7 = o0 + f * 7 + k * 7 by omega, ← HB.out.Rat k hlt] at c0 c1 c2 c3 c4 c5 c6
      have hlt2 : (k : Int) < (h : Int) - f := by omega
      have hlt3 : k < h - f := by omega
      clear hE
      go_wp2_with fail
      refine (i_coasting1 (sx R k) g (clL R k) (clH R k) _ hseg (fr_later HE.out.g' (by repeat (first | (with_reducible exact Later.refl _) | (with_reducible exact Hid.out (by assumption)) | (with_reducible refine Later.alloc ?_ _) | (with_reducible refine Later.setCell ?_ (by simp; omega) _) | (with_reducible refine Later.setCell ?_ (by simp) _) | (with_reducible refine Later.drewN ?_ _) | (with_reducible refine Later.drew ?_) | (with_reducible refine Later.trans ?_ (Hid.out (by assumption)))))) b1 b2 b3 b4).mono ?_
      rw [q1, q2]
      rintro e w5 ⟨rfl, hF5, hg5⟩
      have M5 : Hid (EbS w W.heap.size g w3.heap.size (some ⟨b0, o0, none⟩) n cap L [.int .i64 b, .int .i64 f, .int .i64 h, .int .i64 st, .int .i64 ln] (ndN R k) (hgK R k) (X) (Y) (clL R k) (clH R k) w5) := Lib.hid ((HE.out.later (by repeat (first | (with_reducible exact Later.refl _) | (with_reducible exact Hid.out (by assumption)) | (with_reducible refine Later.alloc ?_ _) | (with_reducible refine Later.setCell ?_ (by simp; omega) _) | (with_reducible refine Later.setCell ?_ (by simp) _) | (with_reducible refine Later.drewN ?_ _) | (with_reducible refine Later.drew ?_) | (with_reducible refine Later.trans ?_ (Hid.out (by assumption)))))).closure HO.out hF5 hg5)
      obtain ⟨n1, n2, n3, n4⟩ := Fr.o2 M5.out.s
      have zs := M5.out.s.lt
      clear hF5 hg5 c0 c1 c2 c3 c4 c5 c6 HE q1 q2
      go_wp2_with fail
      refine into (fun W' => EbS w W.heap.size g w3.heap.size (some ⟨b0, o0, none⟩) n cap L [.int .i64 b, .int .i64 f, .int .i64 h, .int .i64 st, .int .i64 ln] (ndN R k) (hgK R k) (X) (Y) (X) (Y) W') (by first | exact M5.out.setS HO.out X Y) ?_
      clear n1 n2 n3 n4 zs M5
      intro W6 hE6
      have M := Lib.hid hE6
      obtain ⟨m1, m2, m3, m4⟩ := Fr.o2 hE6.B'
      obtain ⟨n1, n2, n3, n4⟩ := Fr.o2 hE6.s
      have zs := hE6.s.lt
      have nBS : ¬ W.heap.size = w3.heap.size := by omega
      have nSB : ¬ w3.heap.size = W.heap.size := by omega
      clear hE6
      go_region_with (first
        | (go_at_call 119; refine (HC1 _).mono ?_; rintro e w7 ⟨rfl, hb⟩; (first | (have M := Lib.hid (M.out.later hb)) | (have M := Lib.hid (M.out.later (later_undrew hb))) | (have M := Lib.hid (M.out.later (later_undrewN hb)))); obtain ⟨m1, m2, m3, m4⟩ := Fr.o2 M.out.B'; obtain ⟨n1, n2, n3, n4⟩ := Fr.o2 M.out.s; have zs := M.out.s.lt; clear hb)
        | (go_at_call 118; refine (HC2 _).mono ?_; rintro e w7 ⟨rfl, hb⟩; (first | (have M := Lib.hid (M.out.later hb)) | (have M := Lib.hid (M.out.later (later_undrew hb))) | (have M := Lib.hid (M.out.later (later_undrewN hb)))); obtain ⟨m1, m2, m3, m4⟩ := Fr.o2 M.out.B'; obtain ⟨n1, n2, n3, n4⟩ := Fr.o2 M.out.s; have zs := M.out.s.lt; clear hb))
      all_goals
        go_wp2_with fail
        go_roundw
        case rel =>
          refine ⟨k + 1, by omega, by go_num, ?_⟩
          rw [← HX.out, ← HY.out]
          exact M.out.setB HO.out _ _
        case measure => simp [intOf]; omega
    · obtain rfl : c = k := by omega
      have M := Lib.hid hE
      obtain ⟨b', o', hbb, hb', hc7⟩ := hE.sg.at h hhn
      simp only [Option.some.injEq, Addr.mk.injEq, and_true] at hbb
      obtain ⟨rfl, rfl⟩ := hbb
      obtain ⟨c0, c1, c2, c3, c4, c5, c6⟩ := hc7
      rw [show sx L h = y by rw [HB.out.ye, HB.out.he]; rfl] at c0 c1 c2 c3 c4 c5 c6
      obtain ⟨u1, u2, u3, u4, u5, _⟩ := Fr.o5 hE.b
      obtain ⟨u6, _⟩ := Fr.o1 hE.l
      obtain ⟨r1, r2, r3, r4⟩ := Fr.o2 hE.r
      have zb := hE.b.lt
      have zl := hE.l.lt
      have zr := hE.r.lt
      have hltn : ¬ (c < h - f) := by omega
      have hltn2 : ¬ ((c : Int) < (h : Int) - f) := by omega
      have dc : c ≤ 24 := by omega
      clear hE hch hcl hn0
      cases hsl : slowB L F b
      · obtain ⟨g1, g2⟩ := gh_not HB.out hsl
        have ek : Hid (kE L F b = 5) := Lib.hid (by unfold kE; rw [g2]; rfl)
        have HG0 := fun w => i_greatestHeld y w
        rw [g1] at HG0
        generalize ghV y = m at *
        go_wp2_with (go_at_call 120; refine (HG0 _).mono ?_; rintro e w7 ⟨rfl, hb⟩; have M := Lib.hid (M.out.later (Later.trans (by repeat (first | (with_reducible exact Later.refl _) | (with_reducible exact Hid.out (by assumption)) | (with_reducible refine Later.alloc ?_ _) | (with_reducible refine Later.setCell ?_ (by simp; omega) _) | (with_reducible refine Later.setCell ?_ (by simp) _) | (with_reducible refine Later.drewN ?_ _) | (with_reducible refine Later.drew ?_) | (with_reducible refine Later.trans ?_ (Hid.out (by assumption))))) hb)); clear hb; obtain ⟨r1, r2, r3, r4⟩ := Fr.o2 M.out.r; have zr := M.out.r.lt)
        refine bodyPost_ret (v := .tuple #[.agg #[.int .i64 0, .int .i64 0], .int .i64 5]) (by simp [results, Try.results94, go_sem, *]) rfl ⟨by rw [ek.out]; rfl, (by repeat (first | exact M.out.lt | refine Later.drew ?_ | refine Later.drewN ?_ _ | refine Later.setCell ?_ (by simp <;> omega) _))⟩
      · obtain ⟨g1, g2, g3, g4, g5, g6⟩ := gh_slow HB.out hsl
        have HG0 := fun w => i_greatestHeld y w
        rw [g1] at HG0
        obtain ⟨d1, d2, d3⟩ := cl_bd R HB.out.Rok c (by rw [HB.out.Rl]; exact hk)
        obtain ⟨d7, d8⟩ := ndN_bd R HB.out.Rok c (by rw [HB.out.Rl]; exact hk)
        have d9 := hgK_ge R HB.out.Rok c (by rw [HB.out.Rl]; exact hk)
        have d10 := hgK_le R c
        have ek : Hid (kE L F b = if loK L F b ≤ hiK L F b then 0 else 5) := Lib.hid (by unfold kE; rw [g6]; simp)
        generalize ghV y = m at *
        have HC1 := fun w => i_energiesBefore (clL R c) (clH R c) m w (by omega) (by omega) (by omega) (by omega) (by omega) (by omega)
        have HC2 := fun w => i_common (ndN R c) (hgK R c) (-clL R c) (m - clH R c) w (by omega) (by omega) (by omega) (by omega) (by omega) (by omega) (by omega) (by omega)
        rw [g4, g5] at HC2
        obtain ⟨lo, hlo⟩ : ∃ lo, lo = loK L F b := ⟨_, rfl⟩
        obtain ⟨hi, hhi⟩ : ∃ hi, hi = hiK L F b := ⟨_, rfl⟩
        rw [← hlo, ← hhi] at HC2
        have HLO := Lib.hid hlo; have HHI := Lib.hid hhi
        rw [← hlo, ← hhi] at ek
        clear hlo hhi
        clear d1 d2 d3 d7 d8 d9 d10 g1 g2 g3 g4 g5 g6
        go_wp2_with (go_at_call 120; refine (HG0 _).mono ?_; rintro e w7 ⟨rfl, hb⟩; have M := Lib.hid (M.out.later (Later.trans (by repeat (first | (with_reducible exact Later.refl _) | (with_reducible exact Hid.out (by assumption)) | (with_reducible refine Later.alloc ?_ _) | (with_reducible refine Later.setCell ?_ (by simp; omega) _) | (with_reducible refine Later.setCell ?_ (by simp) _) | (with_reducible refine Later.drewN ?_ _) | (with_reducible refine Later.drew ?_) | (with_reducible refine Later.trans ?_ (Hid.out (by assumption))))) hb)); clear hb; obtain ⟨r1, r2, r3, r4⟩ := Fr.o2 M.out.r; have zr := M.out.r.lt)
        refine into (fun W' => EbS w W.heap.size g w3.heap.size (some ⟨b0, o0, none⟩) n cap L [.int .i64 b, .int .i64 f, .int .i64 h, .int .i64 st, .int .i64 ln] (ndN R c) (hgK R c) (clL R c) (clH R c) (clL R c) (clH R c) W') (by repeat (first | exact M.out | refine EbS.later M.out (by repeat (first | (with_reducible exact Later.refl _) | (with_reducible exact Hid.out (by assumption)) | (with_reducible refine Later.alloc ?_ _) | (with_reducible refine Later.setCell ?_ (by simp; omega) _) | (with_reducible refine Later.setCell ?_ (by simp) _) | (with_reducible refine Later.drewN ?_ _) | (with_reducible refine Later.drew ?_) | (with_reducible refine Later.trans ?_ (Hid.out (by assumption))))))) ?_
        clear u1 u2 u3 u4 u5 u6 r1 r2 r3 r4 zb zl zr c0 c1 c2 c3 c4 c5 c6 M zs
        intro W6 hE6
        have M := Lib.hid hE6
        obtain ⟨m1, m2, m3, m4⟩ := Fr.o2 hE6.B'
        obtain ⟨n1, n2, n3, n4⟩ := Fr.o2 hE6.s
        obtain ⟨r1, r2, r3, r4⟩ := Fr.o2 hE6.r
        have zs := hE6.s.lt
        have nBS : ¬ W.heap.size = w3.heap.size := by omega
        have nSB : ¬ w3.heap.size = W.heap.size := by omega
        clear hE6
        go_cut [] (fun W' => EbS w W.heap.size g w3.heap.size (some ⟨b0, o0, none⟩) n cap L [.int .i64 b, .int .i64 f, .int .i64 h, .int .i64 st, .int .i64 ln] (lo) (hi) (clL R c) (clH R c) (clL R c) (clH R c) W')
        case first =>
          go_region_with (first
            | (go_at_call 119; refine (HC1 _).mono ?_; rintro e w7 ⟨rfl, hb⟩; (first | (have M := Lib.hid (M.out.later hb)) | (have M := Lib.hid (M.out.later (later_undrew hb))) | (have M := Lib.hid (M.out.later (later_undrewN hb)))); obtain ⟨m1, m2, m3, m4⟩ := Fr.o2 M.out.B'; obtain ⟨n1, n2, n3, n4⟩ := Fr.o2 M.out.s; obtain ⟨r1, r2, r3, r4⟩ := Fr.o2 M.out.r; have zs := M.out.s.lt; clear hb)
            | (go_at_call 118; refine (HC2 _).mono ?_; rintro e w7 ⟨rfl, hb⟩; (first | (have M := Lib.hid (M.out.later hb)) | (have M := Lib.hid (M.out.later (later_undrew hb))) | (have M := Lib.hid (M.out.later (later_undrewN hb)))); obtain ⟨m1, m2, m3, m4⟩ := Fr.o2 M.out.B'; obtain ⟨n1, n2, n3, n4⟩ := Fr.o2 M.out.s; obtain ⟨r1, r2, r3, r4⟩ := Fr.o2 M.out.r; have zs := M.out.s.lt; clear hb))
          all_goals
            go_wp2_with fail
            go_meet
            exact M.out.setB HO.out _ _
        case rest =>
          clear m1 m2 m3 m4 n1 n2 n3 n4 r1 r2 r3 r4 zs M
          have M := Lib.hid hcut
          obtain ⟨m1, m2, m3, m4⟩ := Fr.o2 hcut.B'
          obtain ⟨r1, r2, r3, r4⟩ := Fr.o2 hcut.r
          have zs := hcut.s.lt
          clear hcut
          by_cases hle : lo ≤ hi
          · have ek0 : Hid (kE L F b = 0) := Lib.hid (by rw [ek.out, if_pos hle])
            go_wp2_with fail
            refine bodyPost_ret (v := .tuple #[.agg #[.int .i64 lo, .int .i64 hi], .int .i64 0]) (by simp [results, Try.results94, go_sem, *] <;> omega) rfl ⟨by rw [ek0.out, ← HLO.out, ← HHI.out]; rfl, (by repeat (first | exact M.out.lt | refine Later.drew ?_ | refine Later.drewN ?_ _ | refine Later.setCell ?_ (by simp <;> omega) _))⟩
          · have ek0 : Hid (kE L F b = 5) := Lib.hid (by rw [ek.out, if_neg hle])
            go_wp2_with fail
            refine bodyPost_ret (v := .tuple #[.agg #[.int .i64 0, .int .i64 0], .int .i64 5]) (by simp [results, Try.results94, go_sem, *] <;> omega) rfl ⟨by rw [ek0.out]; rfl, (by repeat (first | exact M.out.lt | refine Later.drew ?_ | refine Later.drewN ?_ _ | refine Later.setCell ?_ (by simp <;> omega) _))⟩
end Go.Proofs.Ytdhoiiejcmnmbaa
namespace Go.Proofs.Ytdhoiiejcmnmbaa
open Go.RowKit
set_option maxHeartbeats 4000000
set_option linter.unusedVariables false
set_option linter.unusedSimpArgs false
theorem ebE_ok {L : List Sg} {F : List Int} {b : Nat} (h : fndE L F (isNo b) = 0) : ebE L F b = kE L F b := by
  unfold ebE kE; rw [if_pos h]; rfl
set_option maxRecDepth 100000 in
theorem i_EntryBounds (a : Option Addr) (n cap : Nat) (L : List Sg) (A : Option Addr) (m capF : Nat) (F : List Int) (p : Int) (w : World) (hs : Sgs w a n L) (hf : Sl w A m F) (hcn : n ≤ cap) (hcF : m ≤ capF) :
    Calls Try.prog 49 #[.agg #[.slice a n cap], .slice A m capF, .int .i64 p] w fun e w' => e = .returned (.tuple #[.agg #[.int .i64 (ebL L F p), .int .i64 (ebH L F p)], .int .i64 (ebE L F p)]) ∧ Later w w' := by
  have HC := fun w => i_sectionNumbered a n cap L A m capF F p w
  have HS := Lib.hid hs; have HF := Lib.hid hf
  by_cases h0 : fndE L F (isNo p) = 0
  · obtain ⟨b, rfl, hb, hv, hk, hsec⟩ := isNo_cases h0
    have HE := fun w (h : Sgs w a n L) => i_entryBounds a n cap L F b w h hcn hv hk hb
    rw [h0, hsec] at HC
    unfold scV at HC HE
    have e1 : ebE L F b = kE L F b := ebE_ok h0
    have e2 : ebL L F b = okV (kE L F b) (loK L F b) := by unfold ebL; rw [e1]; rfl
    have e3 : ebH L F b = okV (kE L F b) (hiK L F b) := by unfold ebH; rw [e1]; rfl
    rw [e1, e2, e3]
    generalize kE L F b = ke at *
    generalize okV ke (loK L F b) = lo at *
    generalize okV ke (hiK L F b) = hi at *
    generalize sec L F b = x at *
    obtain ⟨x0, x1, x2, x3, x4⟩ := x
    clear hs hf h0 hsec e1 e2 e3 hv hk hb
    dsimp only at HC HE
    go_enter Try.func49, Try.ntmps49
    go_wp2_with (first
          | (go_at_call 93; refine (HC _ (HS.out.later (by repeat (first | (with_reducible exact Later.refl _) | (with_reducible exact Hid.out (by assumption)) | (with_reducible refine Later.alloc ?_ _) | (with_reducible refine Later.setCell ?_ (by simp; omega) _) | (with_reducible refine Later.setCell ?_ (by simp) _) | (with_reducible refine Later.drewN ?_ _) | (with_reducible refine Later.drew ?_) | (with_reducible refine Later.trans ?_ (Hid.out (by assumption)))))) (HF.out.later (by repeat (first | (with_reducible exact Later.refl _) | (with_reducible exact Hid.out (by assumption)) | (with_reducible refine Later.alloc ?_ _) | (with_reducible refine Later.setCell ?_ (by simp; omega) _) | (with_reducible refine Later.setCell ?_ (by simp) _) | (with_reducible refine Later.drewN ?_ _) | (with_reducible refine Later.drew ?_) | (with_reducible refine Later.trans ?_ (Hid.out (by assumption)))))) hcn hcF).mono ?_; rintro e w1 ⟨rfl, hb⟩; obtain ⟨H, hcc, hff, hzz⟩ := later_facts hb; clear hb; (try simp at hzz); have hz0 : w.heap.size < w1.heap.size := (by omega); have hz1 : w.heap.size + 1 < w1.heap.size := (by omega))
          | (go_at_call 94; refine (HE _ (HS.out.later (by repeat (first | (with_reducible exact Later.refl _) | (with_reducible exact Hid.out (by assumption)) | (with_reducible refine Later.alloc ?_ _) | (with_reducible refine Later.setCell ?_ (by simp; omega) _) | (with_reducible refine Later.setCell ?_ (by simp) _) | (with_reducible refine Later.drewN ?_ _) | (with_reducible refine Later.drew ?_) | (with_reducible refine Later.trans ?_ (Hid.out (by assumption))))))).mono ?_; rintro e w2 ⟨rfl, hb⟩; obtain ⟨H, hcc, hff, hzz⟩ := later_facts hb; clear hb; (try simp at hzz); have hz0 : w.heap.size < w2.heap.size := (by omega); have hz1 : w.heap.size + 1 < w2.heap.size := (by omega)))
    refine bodyPost_ret (v := .tuple #[.agg #[.int .i64 lo, .int .i64 hi], .int .i64 ke]) (by simp [results, Try.results49, go_sem, *]) rfl ⟨rfl, (by repeat (first | (with_reducible exact Later.refl _) | (with_reducible exact Hid.out (by assumption)) | (with_reducible refine Later.alloc ?_ _) | (with_reducible refine Later.setCell ?_ (by simp; omega) _) | (with_reducible refine Later.setCell ?_ (by simp) _) | (with_reducible refine Later.drewN ?_ _) | (with_reducible refine Later.drew ?_) | (with_reducible refine Later.trans ?_ (Hid.out (by assumption)))))⟩
  · have e1 : ebE L F p = fndE L F (isNo p) := by unfold ebE; rw [if_neg h0]
    have e2 : ebL L F p = 0 := by unfold ebL okV; rw [e1, if_neg h0]
    have e3 : ebH L F p = 0 := by unfold ebH okV; rw [e1, if_neg h0]
    rw [e1, e2, e3]
    unfold scV at HC
    generalize fndE L F (isNo p) = ce at *
    generalize fndC L F (isNo p) = x at *
    obtain ⟨x0, x1, x2, x3, x4⟩ := x
    dsimp only at HC
    have hne : (ce != 0) = true := by simpa using h0
    clear hs hf h0 e1 e2 e3
    go_enter Try.func49, Try.ntmps49
    go_wp2_with (first
          | (go_at_call 93; refine (HC _ (HS.out.later (by repeat (first | (with_reducible exact Later.refl _) | (with_reducible exact Hid.out (by assumption)) | (with_reducible refine Later.alloc ?_ _) | (with_reducible refine Later.setCell ?_ (by simp; omega) _) | (with_reducible refine Later.setCell ?_ (by simp) _) | (with_reducible refine Later.drewN ?_ _) | (with_reducible refine Later.drew ?_) | (with_reducible refine Later.trans ?_ (Hid.out (by assumption)))))) (HF.out.later (by repeat (first | (with_reducible exact Later.refl _) | (with_reducible exact Hid.out (by assumption)) | (with_reducible refine Later.alloc ?_ _) | (with_reducible refine Later.setCell ?_ (by simp; omega) _) | (with_reducible refine Later.setCell ?_ (by simp) _) | (with_reducible refine Later.drewN ?_ _) | (with_reducible refine Later.drew ?_) | (with_reducible refine Later.trans ?_ (Hid.out (by assumption)))))) hcn hcF).mono ?_; rintro e w1 ⟨rfl, hb⟩; obtain ⟨H, hcc, hff, hzz⟩ := later_facts hb; clear hb; (try simp at hzz); have hz0 : w.heap.size < w1.heap.size := (by omega); have hz1 : w.heap.size + 1 < w1.heap.size := (by omega)))
    refine bodyPost_ret (v := .tuple #[.agg #[.int .i64 0, .int .i64 0], .int .i64 ce]) (by simp [results, Try.results49, go_sem, *]) rfl ⟨rfl, (by repeat (first | (with_reducible exact Later.refl _) | (with_reducible exact Hid.out (by assumption)) | (with_reducible refine Later.alloc ?_ _) | (with_reducible refine Later.setCell ?_ (by simp; omega) _) | (with_reducible refine Later.setCell ?_ (by simp) _) | (with_reducible refine Later.drewN ?_ _) | (with_reducible refine Later.drew ?_) | (with_reducible refine Later.trans ?_ (Hid.out (by assumption)))))⟩
theorem ret_bi {p q : Bool} {x y : Int} (h : p = q) (k : x = y) : Ending.returned (.tuple #[.bool p, .int .i64 x]) = .returned (.tuple #[.bool q, .int .i64 y]) := by rw [h, k]
/-- may a train enter, said by the bounds -/
theorem meB_in {L : List Sg} {F : List Int} {b : Nat} {x y : Int} (h0 : fndE L F (isNo b) = 0) (he : enB x y = true) : meE L F b x y = 0 ∧ meB L F b x y = (okK L F b && (decide (loK L F b ≤ x) && decide (y ≤ hiK L F b))) := by
  have e : meE L F b x y = 0 := by unfold meE; rw [if_pos he, h0]
  refine ⟨e, ?_⟩
  unfold meB
  rw [e]
  rfl
theorem lo_hi_bd {L : List Sg} {F : List Int} {b n : Nat} (hv : layB L = true) (hk : bkC L F = true) (hb : b < F.length) : 0 ≤ loK L F b ∧ loK L F b ≤ 300000000000 ∧ hiK L F b ≤ 10000000000 := by
  obtain ⟨f, h, c, y, R, B⟩ := bl_of hv hk hb rfl
  have hc24 : c ≤ 24 := by have := B.ce; have := B.n24; have := B.lt; omega
  have h1 := ndN_bd R B.Rok c (by rw [B.Rl]; exact Nat.le_refl _)
  have h2 := hgK_le R c
  have e1 : loK L F b = ndN R c := by unfold loK; rw [← B.Re, ← B.cn]
  have e2 : hiK L F b ≤ hgK R c := by
    unfold hiK
    rw [← B.Re, ← B.cn]
    split
    · omega
    · exact Int.le_refl _
  omega
set_option maxRecDepth 100000 in
theorem i_MayEnter (a : Option Addr) (n cap : Nat) (L : List Sg) (A : Option Addr) (m capF : Nat) (F : List Int) (p x y : Int) (w : World) (hs : Sgs w a n L) (hf : Sl w A m F) (hcn : n ≤ cap) (hcF : m ≤ capF) :
    Calls Try.prog 51 #[.agg #[.slice a n cap], .slice A m capF, .int .i64 p, .agg #[.int .i64 x, .int .i64 y]] w fun e w' => e = .returned (.tuple #[.bool (meB L F p x y), .int .i64 (meE L F p x y)]) ∧ Later w w' := by
  have HC := fun w => i_sectionNumbered a n cap L A m capF F p w
  have HS := Lib.hid hs; have HF := Lib.hid hf
  cases he : enB x y
  · have e1 : Hid (meE L F p x y = 1) := Lib.hid (by unfold meE; rw [he]; rfl)
    have e2 : Hid (meB L F p x y = false) := Lib.hid (by unfold meB; rw [e1.out]; rfl)
    clear hs hf
    go_enter Try.func51, Try.ntmps51
    go_wp2_with (first | (go_at_call 64; refine (i_IsEnergy _ _ _).mono ?_; rintro e w1 ⟨rfl, hb⟩; obtain ⟨H, hcc, hff, hzz⟩ := later_facts hb; clear hb; (try simp at hzz); (try simp only [World.heap_drewN, World.cell?_drewN, World.frozen?_drewN] at hcc hff); have hz0 : w.heap.size < w1.heap.size := (by omega); (try (have hz1 : w.heap.size + 1 < w1.heap.size := (by omega))); (try (have hz2 : w.heap.size + 1 + 1 < w1.heap.size := (by omega))); (try (have hz3 : w.heap.size + 1 + 1 + 1 < w1.heap.size := (by omega))); (try (have hz4 : w.heap.size + 1 + 1 + 1 + 1 < w1.heap.size := (by omega)))))
    go_ret2
    exact ⟨ret_bi (by rw [e2.out]) (by rw [e1.out]), (by repeat (first | (with_reducible exact Later.refl _) | (with_reducible exact Hid.out (by assumption)) | (with_reducible refine Later.alloc ?_ _) | (with_reducible refine Later.setCell ?_ (by simp; omega) _) | (with_reducible refine Later.setCell ?_ (by simp) _) | (with_reducible refine Later.drewN ?_ _) | (with_reducible refine Later.drew ?_) | (with_reducible refine Later.trans ?_ (Hid.out (by assumption)))))⟩
  · by_cases h0 : fndE L F (isNo p) = 0
    · obtain ⟨b, rfl, hb, hv, hk, hsec⟩ := isNo_cases h0
      have HE := fun w (h : Sgs w a n L) => i_entryBounds a n cap L F b w h hcn hv hk hb
      rw [h0, hsec] at HC
      unfold scV at HC HE
      obtain ⟨e1, e2⟩ := meB_in h0 he
      have hbd := lo_hi_bd (n := n) hv hk hb
      have hen := (enB_iff x y).1 he
      generalize sec L F b = z at *
      obtain ⟨x0, x1, x2, x3, x4⟩ := z
      dsimp only at HC HE
      have E1 := Lib.hid e1
      cases ho : okK L F b
      · have ek : kE L F b = 5 := by unfold kE; rw [ho]; rfl
        rw [ho] at e2
        have E2 : Hid (meB L F b x y = false) := Lib.hid e2
        rw [ek] at HE
        clear hs hf h0 hsec e1 e2 hv hk hb hbd hen ek ho
        generalize okV 5 (loK L F b) = lo at *
        generalize okV 5 (hiK L F b) = hi at *
        go_enter Try.func51, Try.ntmps51
        go_wp2_with (first
          | (go_at_call 64; refine (i_IsEnergy _ _ _).mono ?_; rintro e w1 ⟨rfl, hb⟩; obtain ⟨H, hcc, hff, hzz⟩ := later_facts hb; clear hb; (try simp at hzz); (try simp only [World.heap_drewN, World.cell?_drewN, World.frozen?_drewN] at hcc hff); have hz0 : w.heap.size < w1.heap.size := (by omega); (try (have hz1 : w.heap.size + 1 < w1.heap.size := (by omega))); (try (have hz2 : w.heap.size + 1 + 1 < w1.heap.size := (by omega))); (try (have hz3 : w.heap.size + 1 + 1 + 1 < w1.heap.size := (by omega))); (try (have hz4 : w.heap.size + 1 + 1 + 1 + 1 < w1.heap.size := (by omega))))
          | (go_at_call 93; refine (HC _ (HS.out.later (by repeat (first | (with_reducible exact Later.refl _) | (with_reducible exact Hid.out (by assumption)) | (with_reducible refine Later.alloc ?_ _) | (with_reducible refine Later.setCell ?_ (by simp; omega) _) | (with_reducible refine Later.setCell ?_ (by simp) _) | (with_reducible refine Later.drewN ?_ _) | (with_reducible refine Later.drew ?_) | (with_reducible refine Later.trans ?_ (Hid.out (by assumption)))))) (HF.out.later (by repeat (first | (with_reducible exact Later.refl _) | (with_reducible exact Hid.out (by assumption)) | (with_reducible refine Later.alloc ?_ _) | (with_reducible refine Later.setCell ?_ (by simp; omega) _) | (with_reducible refine Later.setCell ?_ (by simp) _) | (with_reducible refine Later.drewN ?_ _) | (with_reducible refine Later.drew ?_) | (with_reducible refine Later.trans ?_ (Hid.out (by assumption)))))) hcn hcF).mono ?_; rintro e w1 ⟨rfl, hb⟩; obtain ⟨H, hcc, hff, hzz⟩ := later_facts hb; clear hb; (try simp at hzz); have hz0 : w.heap.size < w1.heap.size := (by omega); have hz1 : w.heap.size + 1 < w1.heap.size := (by omega))
          | (go_at_call 94; refine (HE _ (HS.out.later (by repeat (first | (with_reducible exact Later.refl _) | (with_reducible exact Hid.out (by assumption)) | (with_reducible refine Later.alloc ?_ _) | (with_reducible refine Later.setCell ?_ (by simp; omega) _) | (with_reducible refine Later.setCell ?_ (by simp) _) | (with_reducible refine Later.drewN ?_ _) | (with_reducible refine Later.drew ?_) | (with_reducible refine Later.trans ?_ (Hid.out (by assumption))))))).mono ?_; rintro e w2 ⟨rfl, hb⟩; obtain ⟨H, hcc, hff, hzz⟩ := later_facts hb; clear hb; (try simp at hzz); have hz0 : w.heap.size < w2.heap.size := (by omega); have hz1 : w.heap.size + 1 < w2.heap.size := (by omega)))
        go_ret2
        exact ⟨ret_bi (by rw [E2.out]) (by rw [E1.out]), (by repeat (first | (with_reducible exact Later.refl _) | (with_reducible exact Hid.out (by assumption)) | (with_reducible refine Later.alloc ?_ _) | (with_reducible refine Later.setCell ?_ (by simp; omega) _) | (with_reducible refine Later.setCell ?_ (by simp) _) | (with_reducible refine Later.drewN ?_ _) | (with_reducible refine Later.drew ?_) | (with_reducible refine Later.trans ?_ (Hid.out (by assumption)))))⟩
      · have ek : kE L F b = 0 := by unfold kE; rw [ho]; rfl
        have hle : loK L F b ≤ hiK L F b := by unfold okK at ho; simp at ho; exact ho.2
        rw [ho] at e2
        rw [ek] at HE
        have q1 : okV 0 (loK L F b) = loK L F b := rfl
        have q2 : okV 0 (hiK L F b) = hiK L F b := rfl
        rw [q1, q2] at HE
        obtain ⟨c, hc⟩ : ∃ c, c = meB L F b x y := ⟨_, rfl⟩
        have HW : Hid (winB (ivB x y && ivB (loK L F b) (hiK L F b)) x y (loK L F b) (hiK L F b) = c) := Lib.hid (by
          rw [hc, e2]
          have i1 : ivB x y = true := by rw [ivB_iff]; omega
          have i2 : ivB (loK L F b) (hiK L F b) = true := by rw [ivB_iff]; omega
          rw [i1, i2]
          unfold winB
          simp)
        have E2 := Lib.hid hc
        clear hs hf h0 hsec e1 e2 hv hk hb hbd hen ek ho hle q1 q2 hc
        generalize loK L F b = lo at *
        generalize hiK L F b = hi at *
        have HI := fun w => i_IsWithin x y lo hi w
        rw [HW.out] at HI
        go_enter Try.func51, Try.ntmps51
        go_wp2_with (first
          | (go_at_call 64; refine (i_IsEnergy _ _ _).mono ?_; rintro e w1 ⟨rfl, hb⟩; obtain ⟨H, hcc, hff, hzz⟩ := later_facts hb; clear hb; (try simp at hzz); (try simp only [World.heap_drewN, World.cell?_drewN, World.frozen?_drewN] at hcc hff); have hz0 : w.heap.size < w1.heap.size := (by omega); (try (have hz1 : w.heap.size + 1 < w1.heap.size := (by omega))); (try (have hz2 : w.heap.size + 1 + 1 < w1.heap.size := (by omega))); (try (have hz3 : w.heap.size + 1 + 1 + 1 < w1.heap.size := (by omega))); (try (have hz4 : w.heap.size + 1 + 1 + 1 + 1 < w1.heap.size := (by omega))))
          | (go_at_call 93; refine (HC _ (HS.out.later (by repeat (first | (with_reducible exact Later.refl _) | (with_reducible exact Hid.out (by assumption)) | (with_reducible refine Later.alloc ?_ _) | (with_reducible refine Later.setCell ?_ (by simp; omega) _) | (with_reducible refine Later.setCell ?_ (by simp) _) | (with_reducible refine Later.drewN ?_ _) | (with_reducible refine Later.drew ?_) | (with_reducible refine Later.trans ?_ (Hid.out (by assumption)))))) (HF.out.later (by repeat (first | (with_reducible exact Later.refl _) | (with_reducible exact Hid.out (by assumption)) | (with_reducible refine Later.alloc ?_ _) | (with_reducible refine Later.setCell ?_ (by simp; omega) _) | (with_reducible refine Later.setCell ?_ (by simp) _) | (with_reducible refine Later.drewN ?_ _) | (with_reducible refine Later.drew ?_) | (with_reducible refine Later.trans ?_ (Hid.out (by assumption)))))) hcn hcF).mono ?_; rintro e w1 ⟨rfl, hb⟩; obtain ⟨H, hcc, hff, hzz⟩ := later_facts hb; clear hb; (try simp at hzz); have hz0 : w.heap.size < w1.heap.size := (by omega); have hz1 : w.heap.size + 1 < w1.heap.size := (by omega))
          | (go_at_call 94; refine (HE _ (HS.out.later (by repeat (first | (with_reducible exact Later.refl _) | (with_reducible exact Hid.out (by assumption)) | (with_reducible refine Later.alloc ?_ _) | (with_reducible refine Later.setCell ?_ (by simp; omega) _) | (with_reducible refine Later.setCell ?_ (by simp) _) | (with_reducible refine Later.drewN ?_ _) | (with_reducible refine Later.drew ?_) | (with_reducible refine Later.trans ?_ (Hid.out (by assumption))))))).mono ?_; rintro e w2 ⟨rfl, hb⟩; obtain ⟨H, hcc, hff, hzz⟩ := later_facts hb; clear hb; (try simp at hzz); have hz0 : w.heap.size < w2.heap.size := (by omega); have hz1 : w.heap.size + 1 < w2.heap.size := (by omega))
          | (go_at_call 97; refine (HI _).mono ?_; rintro e w1 ⟨rfl, hb⟩; obtain ⟨H, hcc, hff, hzz⟩ := later_facts hb; clear hb; (try simp at hzz); (try simp only [World.heap_drewN, World.cell?_drewN, World.frozen?_drewN] at hcc hff); have hz0 : w.heap.size < w1.heap.size := (by omega); (try (have hz1 : w.heap.size + 1 < w1.heap.size := (by omega))); (try (have hz2 : w.heap.size + 1 + 1 < w1.heap.size := (by omega))); (try (have hz3 : w.heap.size + 1 + 1 + 1 < w1.heap.size := (by omega))); (try (have hz4 : w.heap.size + 1 + 1 + 1 + 1 < w1.heap.size := (by omega)))))
        go_ret2
        exact ⟨ret_bi (by rw [← E2.out]) (by rw [E1.out]), (by repeat (first | (with_reducible exact Later.refl _) | (with_reducible exact Hid.out (by assumption)) | (with_reducible refine Later.alloc ?_ _) | (with_reducible refine Later.setCell ?_ (by simp; omega) _) | (with_reducible refine Later.setCell ?_ (by simp) _) | (with_reducible refine Later.drewN ?_ _) | (with_reducible refine Later.drew ?_) | (with_reducible refine Later.trans ?_ (Hid.out (by assumption)))))⟩
    · have e1 : Hid (meE L F p x y = fndE L F (isNo p)) := Lib.hid (by unfold meE; rw [if_pos he])
      have e2 : Hid (meB L F p x y = false) := Lib.hid (by unfold meB; rw [e1.out]; simp [h0])
      unfold scV at HC
      generalize fndE L F (isNo p) = ce at *
      generalize fndC L F (isNo p) = z at *
      obtain ⟨x0, x1, x2, x3, x4⟩ := z
      dsimp only at HC
      have hne : (ce != 0) = true := by simpa using h0
      clear hs hf h0
      go_enter Try.func51, Try.ntmps51
      go_wp2_with (first
          | (go_at_call 64; refine (i_IsEnergy _ _ _).mono ?_; rintro e w1 ⟨rfl, hb⟩; obtain ⟨H, hcc, hff, hzz⟩ := later_facts hb; clear hb; (try simp at hzz); (try simp only [World.heap_drewN, World.cell?_drewN, World.frozen?_drewN] at hcc hff); have hz0 : w.heap.size < w1.heap.size := (by omega); (try (have hz1 : w.heap.size + 1 < w1.heap.size := (by omega))); (try (have hz2 : w.heap.size + 1 + 1 < w1.heap.size := (by omega))); (try (have hz3 : w.heap.size + 1 + 1 + 1 < w1.heap.size := (by omega))); (try (have hz4 : w.heap.size + 1 + 1 + 1 + 1 < w1.heap.size := (by omega))))
          | (go_at_call 93; refine (HC _ (HS.out.later (by repeat (first | (with_reducible exact Later.refl _) | (with_reducible exact Hid.out (by assumption)) | (with_reducible refine Later.alloc ?_ _) | (with_reducible refine Later.setCell ?_ (by simp; omega) _) | (with_reducible refine Later.setCell ?_ (by simp) _) | (with_reducible refine Later.drewN ?_ _) | (with_reducible refine Later.drew ?_) | (with_reducible refine Later.trans ?_ (Hid.out (by assumption)))))) (HF.out.later (by repeat (first | (with_reducible exact Later.refl _) | (with_reducible exact Hid.out (by assumption)) | (with_reducible refine Later.alloc ?_ _) | (with_reducible refine Later.setCell ?_ (by simp; omega) _) | (with_reducible refine Later.setCell ?_ (by simp) _) | (with_reducible refine Later.drewN ?_ _) | (with_reducible refine Later.drew ?_) | (with_reducible refine Later.trans ?_ (Hid.out (by assumption)))))) hcn hcF).mono ?_; rintro e w1 ⟨rfl, hb⟩; obtain ⟨H, hcc, hff, hzz⟩ := later_facts hb; clear hb; (try simp at hzz); have hz0 : w.heap.size < w1.heap.size := (by omega); have hz1 : w.heap.size + 1 < w1.heap.size := (by omega)))
      go_ret2
      exact ⟨ret_bi (by rw [e2.out]) (by rw [e1.out]), (by repeat (first | (with_reducible exact Later.refl _) | (with_reducible exact Hid.out (by assumption)) | (with_reducible refine Later.alloc ?_ _) | (with_reducible refine Later.setCell ?_ (by simp; omega) _) | (with_reducible refine Later.setCell ?_ (by simp) _) | (with_reducible refine Later.drewN ?_ _) | (with_reducible refine Later.drew ?_) | (with_reducible refine Later.trans ?_ (Hid.out (by assumption)))))⟩
end Go.Proofs.Ytdhoiiejcmnmbaa
namespace Go.Proofs.Ytdhoiiejcmnmbaa
open Go.RowKit
set_option maxHeartbeats 2000000
set_option linter.unusedVariables false
set_option linter.unusedSimpArgs false
theorem s_Ceil (a b : Int) (w : World) (h1 : -1000000000000 ≤ a) (h2 : a ≤ 1000000000000) (h3 : -1000000000000 ≤ b) (h4 : b ≤ 1000000000000) (h0 : b ≠ 0) :
    Calls Try.prog 70 #[.int .i64 a, .int .i64 b] w fun e w' => e = .returned (.int .i64 (cei a b)) ∧ w = w' := by
  have hb := flo_bd (-a) b 1000000000000 (by omega) (by omega)
  have hc := cei_eq a b h0
  have H := Lib.hid hc; clear hc
  go_enter Try.func70, Try.ntmps70
  go_wp2_with (go_at_call 75; refine (s_Floor _ _ _ (by omega) (by omega) h3 h4 h0).mono ?_; rintro e w' ⟨rfl, rfl⟩)
  go_ret
  exact ⟨ret_i64 (H.out).symm, rfl⟩
theorem i_DivideUp (a b : Int) (w : World) : Calls Try.prog 65 #[.int .i64 a, .int .i64 b] w fun e w' => e = .returned (.tuple #[.int .i64 (divU a b), .int .i64 (divErr a b)]) ∧ w = w' := by
  by_cases h : divErr a b = 0
  · obtain ⟨h1, h2, h3, h4, h0⟩ := divErr_0 a b h
    have hb := tdiv_bd a b _ h1 h2
    have e0 : (divErr a b != 0) = false := by simp [h]
    have H := Lib.hid h; clear h
    go_enter Try.func65, Try.ntmps65
    go_wp2_with (go_at_call 105; refine (i_divisionError _ _ _).mono ?_; rintro e w' ⟨rfl, rfl⟩)
    all_goals
      go_ret2
      have h := H.out
      exact ⟨ret_2i (by unfold divU cei; simp_all) (by simp_all), rfl⟩
  · have e0 : (divErr a b != 0) = true := by simp [h]
    have H := Lib.hid h; clear h
    go_enter Try.func65, Try.ntmps65
    go_wp2_with (go_at_call 105; refine (i_divisionError _ _ _).mono ?_; rintro e w' ⟨rfl, rfl⟩)
    go_ret2
    have h := H.out
    exact ⟨ret_2i (by unfold divU; simp_all) rfl, rfl⟩
end Go.Proofs.Ytdhoiiejcmnmbaa
namespace Go.Proofs.Ytdhoiiejcmnmbaa
open Go.RowKit
set_option maxHeartbeats 400000
set_option linter.unusedVariables false
theorem sq_succ (m : Int) : (m + 1) * (m + 1) = m * m + 2 * m + 1 := by rw [Int.add_mul, Int.mul_add]; omega
theorem mid_bd (m : Int) (h0 : 0 ≤ m) (h : m ≤ 1000000) : 0 ≤ m * m ∧ m * m ≤ 1000000000000 := ⟨sq_nn m, sq_mono m 1000000 h0 h⟩
theorem rootErr_in (n : Int) (h1 : 0 ≤ n) (h2 : n ≤ 1000000000000) : rootErr n = 0 := by unfold rootErr; rw [if_pos ⟨h1, h2⟩]
theorem rootErr_out (n : Int) (h : n < 0 ∨ 1000000000000 < n) : rootErr n = 2 := by unfold rootErr; rw [if_neg (by omega)]
end Go.Proofs.Ytdhoiiejcmnmbaa
