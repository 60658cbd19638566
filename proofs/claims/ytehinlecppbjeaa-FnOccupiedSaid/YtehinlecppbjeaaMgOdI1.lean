/- The state of a function that draws a layout and hands it back in a cell. | Plain words of chapter 5: trains and sensors on the track. No program in sight. | Drawn lengths and distances of chapter 5. | The draws of RearOf and MoveFront. | Contracts of chapter 5: the program's small functions. | Contracts of chapter 5: the model's small functions; rears, moves, gaps. | Drawn fronts and sensors of chapter 5. | Drawn fronts of chapter 5. | The draws of GapAhead and AreSeparate. | Contracts of chapter 5: rears, moves, gaps, separate trains: the program's functions. | Contracts of chapter 5: sensors: the program's small functions. | Contracts of chapter 5: lists that are joined. | The draws of SensorsPassed and SensorsCovered. | The draws of BlockAt, MergeBlocks and BlockLoads. | Contracts of chapter 5: gaps, separate trains, sensors: the model's functions. | Plain words of chapter 5: the blocks that a train occupies. No program in sight. -/
import Derived.Test.YtehinlecppbjeaaSgH
import Derived.Test.YtehinlecppbjeaaBkM
import Derived.IntWalk
import Derived.Test.YtehinlecppbjeaaOwn
import Derived.Test.YtehinlecppbjeaaHeld
import Derived.Outline
import Derived.Laws.ResultCell
import Derived.Test.YtehinlecppbjeaaSgUT
import Derived.Test.YtehinlecppbjeaaApp
import Derived.WalkSmall
import Derived.Deep.DeepMust
import Derived.Test.YtehinlecppbjeaaSgIT
import Derived.Test.YtehinlecppbjeaaList
import Derived.Test.YtehinlecppbjeaaSgO
import Derived.Test.YtehinlecppbjeaaBkW
import Derived.BigQuiet
import Derived.Deep.QuietTactic
namespace Go.Proofs.Ytehinlecppbjeaa
open Go.RowKit
set_option maxHeartbeats 2000000
set_option linter.unusedVariables false
set_option linter.unusedSimpArgs false
theorem Sgs.grown0 {w w' : World} {a : Option Addr} {n : Nat} {L : List Sg} {row : Option Nat} (h : Sgs w a n L) (hg : w.grownBy w' row) (hne : ∀ x, a = some x → 0 < n → row ≠ some x.block) : Sgs w' a n L := by
  obtain ⟨h1, h2, h3, h4⟩ := h
  refine ⟨h1, h2, fun k hk => ?_, h4⟩
  obtain ⟨b, off, rfl, hc⟩ := h3 k hk
  exact ⟨b, off, rfl, fun j hj => hg.cell (hc j hj) (fun e => hne ⟨b, off, none⟩ rfl (by omega) e.symm)⟩
/-- boxes of its own, the source, the drawn layout; g: the block of the result's cell -/
def DL (l : List (Nat × Nat × Value)) (g : Nat) (a' : Option Addr) (n : Nat) (L : List Sg) (B : Nat) (a : Option Addr) (len cap : Nat) (w0 W : World) : Prop :=
  St l B a len cap w0 W ∧ Sgs W a' n L ∧ ∀ x, a' = some x → 0 < n → x.block ≠ B ∧ x.block ≠ g
section
variable {l : List (Nat × Nat × Value)} {g : Nat} {a' : Option Addr} {n : Nat} {L : List Sg} {B : Nat} {a : Option Addr} {len cap : Nat} {w0 W W1 : World}
theorem DL.st (h : DL l g a' n L B a len cap w0 W) : St l B a len cap w0 W := h.1
theorem DL.src (h : DL l g a' n L B a len cap w0 W) : Src W B a len cap := h.1.src
theorem DL.sg (h : DL l g a' n L B a len cap w0 W) : Sgs W a' n L := h.2.1
theorem DL.nB (h : DL l g a' n L B a len cap w0 W) : ∀ x, a' = some x → 0 < n → x.block ≠ B := fun x hx hn => (h.2.2 x hx hn).1
theorem DL.call (h : DL l g a' n L B a len cap w0 W) (src : Src W1 B a len cap) (gr : W.grownBy W1 (some B)) : DL l g a' n L B a len cap w0 W1 :=
  ⟨h.1.call src gr, h.2.1.grown0 gr (fun x hx hn e => (h.2.2 x hx hn).1 (Option.some.inj e).symm), h.2.2⟩
theorem DL.later (h : DL l g a' n L B a len cap w0 W) (k : Later W W1) : DL l g a' n L B a len cap w0 W1 := ⟨h.1.later k, h.2.1.later k, h.2.2⟩
theorem DL.alloc (h : DL l g a' n L B a len cap w0 W) (o : Obj) : DL l g a' n L B a len cap w0 (W.alloc o) := h.later ((Later.refl _).alloc o)
theorem DL.drew (h : DL l g a' n L B a len cap w0 W) : DL l g a' n L B a len cap w0 W.drew := h.later (Later.refl _).drew
theorem DL.drewN (h : DL l g a' n L B a len cap w0 W) (q : Nat) : DL l g a' n L B a len cap w0 (W.drewN q) := h.later ((Later.refl _).drewN q)
theorem DL.box (h : DL l g a' n L B a len cap w0 W) (v0 : Value) (T : TypeId) : DL ((W.heap.size, 0, v0) :: l) g a' n L B a len cap w0 (W.alloc (.cells #[v0] T)) :=
  ⟨h.1.box1 v0 T, h.2.1.later ((Later.refl _).alloc _), h.2.2⟩
theorem DL.c1 {b o : Nat} {v : Value} (h : DL ((b, o, v) :: l) g a' n L B a len cap w0 W) : W.cell? ⟨b, o, none⟩ = some v := (h.1.at b o v (by simp)).1
/-- a cell that lay there at the start -/
theorem DL.old (h : DL l g a' n L B a len cap w0 W) {b o : Nat} {v : Value} (hc : w0.cell? ⟨b, o, none⟩ = some v) (hb : b ≠ B) : W.cell? ⟨b, o, none⟩ = some v := h.1.grown.cell hc (by simpa using hb)
theorem DL.oldF (h : DL l g a' n L B a len cap w0 W) {b o : Nat} {v : Value} (hc : w0.cell? ⟨b, o, none⟩ = some v) (hf : w0.frozen? ⟨b, o, none⟩ = false) (hb : b ≠ B) : W.frozen? ⟨b, o, none⟩ = false := by
  rw [World.frozen?_of_block (w := w0) (h.1.grown.block b (cell_lt hc) (by simpa using hb))]; exact hf
theorem DL.set (h : DL l g a' n L B a len cap w0 W) (u : Value) (j : Nat) : Sgs (W.setCell ⟨g, j, none⟩ u) a' n L := by
  obtain ⟨h1, h2, h3, h4⟩ := h.2.1
  refine ⟨h1, h2, fun k hk => ?_, h4⟩
  obtain ⟨b, off, e, hcl⟩ := h3 k hk
  have hne := (h.2.2 _ e (by omega)).2
  refine ⟨b, off, e, fun i hi => ?_⟩
  rw [World.cell?_setCell_far _ _ _ _ (Ne.symm hne)]
  exact hcl i hi
end
/-- how such a function begins: the result's cell, the source out of the code, the layout -/
theorem dl_begin0 {w w1 w2 : World} {a : Option Addr} {len cap : Nat} {T : TypeId} {a' : Option Addr} {n : Nat} {L : List Sg} (src : Src w1 (w.heap.size + 1) a len cap) (bel : Below (w.heap.size + 1) (w.alloc (.cells #[.slice none 0 0] T)) w1)
    (hl : Sgs w2 a' n L) (hbl : ∀ x, a' = some x → 0 < n → w1.heap.size ≤ x.block) (src2 : Src w2 (w.heap.size + 1) a len cap) (gr : w1.grownBy w2 (some (w.heap.size + 1))) :
    DL [] w.heap.size a' n L (w.heap.size + 1) a len cap w1 w2 ∧ Below w.heap.size w w1 ∧ w1.cell? ⟨w.heap.size, 0, none⟩ = some (.slice none 0 0) ∧ w1.frozen? ⟨w.heap.size, 0, none⟩ = false ∧ w.heap.size + 1 < w1.heap.size := by
  have hlt := src.lt
  refine ⟨⟨(St.begin src).call src2 gr, hl, fun x hx hn => ⟨by have := hbl x hx hn; omega, by have := hbl x hx hn; omega⟩⟩, ((Below.refl _ _).alloc (Nat.le_refl _) _).trans (bel.mono (Nat.le_succ _)), ?_, ?_, hlt⟩
  · rw [bel.cell (p := ⟨w.heap.size, 0, none⟩) (Nat.lt_succ_self _)]; simp
  · rw [Below.frozen (p := ⟨w.heap.size, 0, none⟩) bel (Nat.lt_succ_self _)]; simp
theorem dl_begin {w w1 w2 : World} {a : Option Addr} {len cap : Nat} {T : TypeId} {a' : Option Addr} {n : Nat} {L : List Sg} (src : Src w1 (w.heap.size + 1) a len cap) (bel : Below (w.heap.size + 1) (w.alloc (.cells #[.slice none 0 0] T)) w1)
    (hl : Sgs w2 a' n L) (hbl : ∀ x, a' = some x → w1.heap.size ≤ x.block) (src2 : Src w2 (w.heap.size + 1) a len cap) (gr : w1.grownBy w2 (some (w.heap.size + 1))) :
    DL [] w.heap.size a' n L (w.heap.size + 1) a len cap w1 w2 ∧ Below w.heap.size w w1 ∧ w1.cell? ⟨w.heap.size, 0, none⟩ = some (.slice none 0 0) ∧ w1.frozen? ⟨w.heap.size, 0, none⟩ = false ∧ w.heap.size + 1 < w1.heap.size :=
  dl_begin0 src bel hl (fun x hx _ => hbl x hx) src2 gr
/-- and how it ends -/
theorem dl_below {l : List (Nat × Nat × Value)} {w w1 W : World} {a : Option Addr} {len cap : Nat} {a' : Option Addr} {n : Nat} {L : List Sg} {g : Nat} (h : DL l g a' n L (w.heap.size + 1) a len cap w1 W) (hb : Below w.heap.size w w1) : Below w.heap.size w W :=
  hb.grown h.1.grown hb.size (fun k e => by have := Option.some.inj e; omega)
end Go.Proofs.Ytehinlecppbjeaa
namespace Go.Proofs.Ytehinlecppbjeaa
set_option linter.unusedSimpArgs false
set_option linter.unusedVariables false
/-- a position of the track -/
def isP (T p : Int) : Bool := decide (0 ≤ p) && decide (p < T)
theorem isP_iff (T p : Int) : isP T p = true ↔ 0 ≤ p ∧ p < T := by unfold isP; simp
theorem isP_no (T p : Int) : isP T p = false ↔ ¬ (0 ≤ p ∧ p < T) := by rw [← isP_iff]; simp
/-- a length of trains that fit on the track -/
def isN (T n : Int) : Bool := decide (1 ≤ n) && decide (n ≤ 40000) && decide (n ≤ T)
theorem isN_iff (T n : Int) : isN T n = true ↔ 1 ≤ n ∧ n ≤ 40000 ∧ n ≤ T := by unfold isN; simp [and_assoc]
theorem isN_no (T n : Int) : isN T n = false ↔ ¬ (1 ≤ n ∧ n ≤ 40000 ∧ n ≤ T) := by rw [← isN_iff]; simp
/-- all of these are positions -/
def allP (T : Int) (F : List Int) : Bool := F.all (isP T)
def trsB (T n : Int) (F : List Int) : Bool := isN T n && allP T F
def mvB (T p d : Int) : Bool := isP T p && (decide (0 ≤ d) && decide (d ≤ T))
theorem mvB_iff (T p d : Int) : mvB T p d = true ↔ (0 ≤ p ∧ p < T) ∧ 0 ≤ d ∧ d ≤ T := by unfold mvB; simp [isP_iff]
theorem mvB_no (T p d : Int) : mvB T p d = false ↔ ¬ ((0 ≤ p ∧ p < T) ∧ 0 ≤ d ∧ d ≤ T) := by rw [← mvB_iff]; simp
theorem trsB_nil (T n : Int) : trsB T n [] = isN T n := by simp [trsB, allP]
theorem trsB_one (T n p : Int) : trsB T n [p] = (isN T n && isP T p) := by simp [trsB, allP]
theorem trsB_two (T n p q : Int) : trsB T n [p, q] = (isN T n && (isP T p && isP T q)) := by simp [trsB, allP]
theorem tot_bd {L : List Sg} (h : layB L = true) : 3 ≤ totL L ∧ totL L ≤ 4800000 := by
  obtain ⟨h3, h24, ho, _⟩ := (layB_iff L).1 h
  have := up_bd L L.length (Nat.le_refl _) ho
  unfold totL; omega
/-- the codes -/
def trE (L : List Sg) (p n : Int) : Int := if layB L = true then (if trsB (totL L) n [p] = true then 0 else 2) else 1
def mvE (L : List Sg) (p d : Int) : Int := if layB L = true then (if mvB (totL L) p d = true then 0 else 2) else 1
theorem trE_bad {L : List Sg} {p n : Int} (h : layB L = false) : trE L p n = 1 := by unfold trE; rw [h]; rfl
theorem mvE_bad {L : List Sg} {p n : Int} (h : layB L = false) : mvE L p n = 1 := by unfold mvE; rw [h]; rfl
theorem trE_ok {L : List Sg} {p n : Int} (h : trE L p n = 0) : layB L = true ∧ isN (totL L) n = true ∧ isP (totL L) p = true := by
  unfold trE at h
  split at h
  · split at h
    · rename_i a b
      rw [trsB_one, Bool.and_eq_true] at b
      exact ⟨a, b⟩
    · omega
  · omega
theorem trE_yes {L : List Sg} {p n : Int} (h : layB L = true) (hn : isN (totL L) n = true) (hp : isP (totL L) p = true) : trE L p n = 0 := by
  unfold trE; rw [if_pos h, if_pos (by rw [trsB_one, hn, hp]; rfl)]
theorem trE_no {L : List Sg} {p n : Int} (h : layB L = true) (hp : (isN (totL L) n && isP (totL L) p) = false) : trE L p n = 2 := by
  unfold trE; rw [if_pos h, if_neg (by rw [trsB_one, hp]; simp)]
theorem mvE_ok {L : List Sg} {p d : Int} (h : mvE L p d = 0) : layB L = true ∧ mvB (totL L) p d = true := by
  unfold mvE at h
  split at h
  · split at h
    · rename_i a b; exact ⟨a, b⟩
    · omega
  · omega
theorem mvE_yes {L : List Sg} {p d : Int} (h : layB L = true) (hm : mvB (totL L) p d = true) : mvE L p d = 0 := by
  unfold mvE; rw [if_pos h, if_pos hm]
theorem mvE_no {L : List Sg} {p d : Int} (h : layB L = true) (hm : mvB (totL L) p d = false) : mvE L p d = 2 := by
  unfold mvE; rw [if_pos h, if_neg (by rw [hm]; simp)]
/-- where the rear is; where the front comes to; how far ahead another front is -/
def rearK (T p n : Int) : Int := (p - n + 1) % T
def rearV (L : List Sg) (p n : Int) : Int := if trE L p n = 0 then rearK (totL L) p n else 0
def movV (L : List Sg) (p d : Int) : Int := if mvE L p d = 0 then (p + d) % totL L else 0
def ahead (T a b : Int) : Int := (b - a) % T
theorem mod_nn {a T : Int} (h : 0 ≤ a) (h1 : a < T) : a % T = a := Int.emod_eq_of_lt h h1
theorem mod_up {a T : Int} (h : -T ≤ a) (h1 : a < 0) : a % T = a + T := by
  rw [← Int.add_emod_right a T]; exact Int.emod_eq_of_lt (by omega) (by omega)
theorem mod_dn {a T : Int} (h : T ≤ a) (h1 : a < T + T) : a % T = a - T := by
  rw [← Int.sub_emod_right a T]; exact Int.emod_eq_of_lt (by omega) (by omega)
/-- the remainder as both reckon it -/
theorem mod_go {a T : Int} (h : -T ≤ a) (hT : 0 < T) : (a + T).tmod T = a % T := by
  rw [Int.tmod_eq_emod_of_nonneg (by omega), Int.add_emod_right]
theorem mod_go2 (a T : Int) (hT : 0 < T) : (a.tmod T + T).tmod T = a % T := by
  have f := tmod_facts a T (by omega)
  rw [Int.tmod_eq_emod_of_nonneg (by omega), Int.add_emod_right]
  have e : a = a.tmod T + T * a.tdiv T := by omega
  conv => rhs; rw [e]
  rw [Int.add_mul_emod_self_left]
theorem rear_cases {T p n : Int} (hp : 0 ≤ p ∧ p < T) (hn : 1 ≤ n ∧ n ≤ T) : (n ≤ p + 1 ∧ rearK T p n = p - n + 1) ∨ (p + 1 < n ∧ rearK T p n = p - n + 1 + T) := by
  unfold rearK
  by_cases c : n ≤ p + 1
  · exact .inl ⟨c, mod_nn (by omega) (by omega)⟩
  · exact .inr ⟨by omega, mod_up (by omega) (by omega)⟩
theorem mov_cases {T p d : Int} (hp : 0 ≤ p ∧ p < T) (hd : 0 ≤ d ∧ d ≤ T) : (p + d < T ∧ (p + d) % T = p + d) ∨ (T ≤ p + d ∧ (p + d) % T = p + d - T) := by
  by_cases c : p + d < T
  · exact .inl ⟨c, mod_nn (by omega) c⟩
  · exact .inr ⟨by omega, mod_dn (by omega) (by omega)⟩
theorem ahead_cases {T a b : Int} (ha : 0 ≤ a ∧ a < T) (hb : 0 ≤ b ∧ b < T) : (a ≤ b ∧ ahead T a b = b - a) ∨ (b < a ∧ ahead T a b = b - a + T) := by
  unfold ahead
  by_cases c : a ≤ b
  · exact .inl ⟨c, mod_nn (by omega) (by omega)⟩
  · exact .inr ⟨by omega, mod_up (by omega) (by omega)⟩
theorem rear_moves {T p n d : Int} (hp : 0 ≤ p ∧ p < T) : ((p + d) % T - n + 1) % T = (rearK T p n + d) % T := by
  unfold rearK
  rw [show (p + d) % T - n + 1 = (p + d) % T + (1 - n) by omega, Int.emod_add_emod, Int.emod_add_emod]
  congr 1; omega
/-- two trains are apart -/
def apB (T a b n : Int) : Bool := decide (n ≤ ahead T a b) && decide (n ≤ T - ahead T a b)
theorem apB_sym {T a b n : Int} (ha : 0 ≤ a ∧ a < T) (hb : 0 ≤ b ∧ b < T) (hn : 1 ≤ n) : apB T a b n = apB T b a n := by
  have h1 := ahead_cases ha hb
  have h2 := ahead_cases hb ha
  unfold apB
  rcases h1 with ⟨c, e⟩ | ⟨c, e⟩ <;> rcases h2 with ⟨c2, e2⟩ | ⟨c2, e2⟩ <;> rw [e, e2, Bool.eq_iff_iff] <;> simp <;> omega
def gapE (L : List Sg) (a b n : Int) : Int := if trE L a n = 0 then (if trE L b n = 0 then (if apB (totL L) a b n = true then 0 else 5) else trE L b n) else trE L a n
def gapV (L : List Sg) (a b n : Int) : Int := if gapE L a b n = 0 then ahead (totL L) a b - n else 0
theorem gapE_ok {L : List Sg} {a b n : Int} (h : gapE L a b n = 0) : trE L a n = 0 ∧ trE L b n = 0 ∧ apB (totL L) a b n = true := by
  unfold gapE at h
  split at h
  · split at h
    · split at h
      · exact ⟨by assumption, by assumption, by assumption⟩
      · omega
    · rename_i a b; exact absurd h b
  · rename_i b; exact absurd h b
/-- the first k trains are apart from one another -/
def sepK (T n : Int) (F : List Int) (k : Nat) : Bool := (List.range k).all fun i => (List.range i).all fun j => apB T (gx F i) (gx F j) n
def sepJ (T n : Int) (F : List Int) (i k : Nat) : Bool := (List.range k).all fun j => apB T (gx F i) (gx F j) n
theorem sepK_0 (T n : Int) (F : List Int) : sepK T n F 0 = true := by simp [sepK]
theorem sepJ_0 (T n : Int) (F : List Int) (i : Nat) : sepJ T n F i 0 = true := by simp [sepJ]
theorem sepK_succ (T n : Int) (F : List Int) (k : Nat) : sepK T n F (k + 1) = (sepK T n F k && sepJ T n F k k) := by
  unfold sepK sepJ; rw [List.range_succ, List.all_append]; simp
theorem sepJ_succ (T n : Int) (F : List Int) (i k : Nat) : sepJ T n F i (k + 1) = (sepJ T n F i k && apB T (gx F i) (gx F k) n) := by
  unfold sepJ; rw [List.range_succ, List.all_append]; simp
theorem sepK_no {T n : Int} {F : List Int} {m i j : Nat} (hi : i < m) (hj : j < i) (h : apB T (gx F i) (gx F j) n = false) : sepK T n F m = false := by
  rw [Bool.eq_false_iff]; intro g
  unfold sepK at g
  rw [List.all_eq_true] at g
  have := g i (List.mem_range.2 hi)
  rw [List.all_eq_true] at this
  have := this j (List.mem_range.2 hj)
  rw [h] at this; cases this
def sepB (L : List Sg) (F : List Int) (n : Int) : Bool := layB L && decide (F.length ≤ 4) && trsB (totL L) n F && sepK (totL L) n F F.length
theorem allP_at {T : Int} {F : List Int} (h : allP T F = true) (k : Nat) (hk : k < F.length) : 0 ≤ gx F k ∧ gx F k < T := by
  unfold allP at h
  rw [List.all_eq_true] at h
  exact (isP_iff _ _).1 (h _ (gx_mem F k hk))
theorem allP_no {T : Int} {F : List Int} {k : Nat} (hk : k < F.length) (h : isP T (gx F k) = false) : allP T F = false := by
  rw [Bool.eq_false_iff]; intro g
  have := allP_at g k hk
  rw [← isP_iff, h] at this; cases this
theorem allP_of {T : Int} {F : List Int} (h : ∀ k, k < F.length → isP T (gx F k) = true) : allP T F = true := by
  unfold allP
  rw [List.all_eq_true]
  intro x hx
  obtain ⟨k, hk, rfl⟩ := List.mem_iff_getElem.1 hx
  rw [← gx_of F k hk]; exact h k hk
/-- sensors -/
def senB (L : List Sg) (S : List Int) : Bool := layB L && decide (S.length ≤ 32) && risB S (totL L)
theorem senB_iff (L : List Sg) (S : List Int) : senB L S = true ↔ layB L = true ∧ S.length ≤ 32 ∧ risB S (totL L) = true := by
  unfold senB; simp [and_assoc]
theorem senB_no (L : List Sg) (S : List Int) : senB L S = false ↔ ¬ (layB L = true ∧ S.length ≤ 32 ∧ risB S (totL L) = true) := by
  rw [← senB_iff]; simp
/-- the indices of the elements that lie from a to b -/
def onI (S : List Int) (a b : Int) (k : Nat) : List Int := ((List.range k).filter fun i => decide (a ≤ gx S i) && decide (gx S i ≤ b)).map (fun (i : Nat) => (i : Int))
theorem onI_0 (S : List Int) (a b : Int) : onI S a b 0 = [] := by simp [onI]
theorem onI_succ (S : List Int) (a b : Int) (k : Nat) : onI S a b (k + 1) = if a ≤ gx S k ∧ gx S k ≤ b then onI S a b k ++ [(k : Int)] else onI S a b k := by
  unfold onI; rw [List.range_succ, List.filter_append, List.map_append]
  by_cases h1 : a ≤ gx S k <;> by_cases h2 : gx S k ≤ b <;> simp [h1, h2]
theorem onI_len (S : List Int) (a b : Int) (k : Nat) : (onI S a b k).length ≤ k := by
  unfold onI; rw [List.length_map]
  exact Nat.le_trans (List.length_filter_le _ _) (by simp)
theorem onI_mem (S : List Int) (a b : Int) (k : Nat) : ∀ x ∈ onI S a b k, 0 ≤ x ∧ x < k := by
  intro x hx
  unfold onI at hx
  rw [List.mem_map] at hx
  obtain ⟨i, hi, rfl⟩ := hx
  have := List.mem_range.1 (List.mem_filter.1 hi).1
  omega
/-- the code and the list of the sensors that are covered -/
def cvE (L : List Sg) (S : List Int) (p n : Int) : Int := if senB L S = true then trE L p n else 1
def cvK (T : Int) (S : List Int) (p n : Int) (k : Nat) : List Int := ((List.range k).filter fun i => decide ((p - gx S i) % T < n)).map (fun (i : Nat) => (i : Int))
def cvV (L : List Sg) (S : List Int) (p n : Int) : List Int := if cvE L S p n = 0 then cvK (totL L) S p n S.length else []
theorem cvK_0 (T : Int) (S : List Int) (p n : Int) : cvK T S p n 0 = [] := by simp [cvK]
theorem cvK_succ (T : Int) (S : List Int) (p n : Int) (k : Nat) : cvK T S p n (k + 1) = if (p - gx S k) % T < n then cvK T S p n k ++ [(k : Int)] else cvK T S p n k := by
  unfold cvK; rw [List.range_succ, List.filter_append, List.map_append]
  by_cases h1 : (p - gx S k) % T < n <;> simp [h1]
theorem cvK_len (T : Int) (S : List Int) (p n : Int) (k : Nat) : (cvK T S p n k).length ≤ k := by
  unfold cvK; rw [List.length_map]
  exact Nat.le_trans (List.length_filter_le _ _) (by simp)
theorem cvK_mem (T : Int) (S : List Int) (p n : Int) (k : Nat) : ∀ x ∈ cvK T S p n k, 0 ≤ x ∧ x < k := by
  intro x hx
  unfold cvK at hx
  rw [List.mem_map] at hx
  obtain ⟨i, hi, rfl⟩ := hx
  have := List.mem_range.1 (List.mem_filter.1 hi).1
  omega
/-- rising lists grow -/
theorem ris_le {S : List Int} {m : Int} (h : risB S m = true) (i j : Nat) (hij : i < j) (hj : j < S.length) : gx S i < gx S j := by
  induction j with
  | zero => omega
  | succ j ih =>
    have := (ris_at h (j + 1) hj).2.2 (by omega)
    rw [Nat.add_sub_cancel] at this
    by_cases e : i = j
    · rw [e]; exact this
    · have := ih (by omega) (by omega); omega
/-- what is low comes first -/
theorem low_first (P Q : Nat → Bool) (n : Nat) (h : ∀ i j, i < n → j < n → P i = true → Q j = true → i < j) : (List.range n).filter P ++ (List.range n).filter Q = (List.range n).filter fun i => P i || Q i := by
  induction n with
  | zero => simp
  | succ n ih =>
    have ih := ih (fun i j hi hj => h i j (by omega) (by omega))
    rw [List.range_succ, List.filter_append, List.filter_append, List.filter_append, ← ih]
    by_cases hp : P n = true
    · have e : (List.range n).filter Q = [] := by
        rw [List.filter_eq_nil_iff]
        intro j hj hq
        have := h n j (by omega) (by have := List.mem_range.1 hj; omega) hp hq
        have := List.mem_range.1 hj; omega
      have e2 : Q n = false := by
        rw [Bool.eq_false_iff]; intro hq
        have := h n n (by omega) (by omega) hp hq; omega
      rw [e]; simp [hp, e2]
    · have hp : P n = false := by simpa using hp
      have e : List.filter (fun i => P i || Q i) [n] = List.filter Q [n] := by simp [List.filter_cons, hp]
      simp [hp, e]
/-- the sensors of both parts of a train -/
theorem cv_parts {T : Int} {S : List Int} {p n : Int} (hr : risB S T = true) (hp : 0 ≤ p ∧ p < T) (hn : 1 ≤ n ∧ n ≤ T) :
    onI S 0 (rearK T p n + n - 1 - T) S.length ++ onI S (rearK T p n) (min (rearK T p n + n - 1) (T - 1)) S.length = cvK T S p n S.length := by
  have hc := rear_cases hp hn
  unfold onI cvK
  rw [← List.map_append, low_first]
  · congr 1
    apply List.filter_congr
    intro i hi
    obtain ⟨s0, s1, _⟩ := ris_at hr i (List.mem_range.1 hi)
    have hb := ahead_cases (T := T) (a := gx S i) (b := p) ⟨s0, s1⟩ hp
    unfold ahead at hb
    rw [Bool.eq_iff_iff]
    simp only [Bool.or_eq_true, Bool.and_eq_true, decide_eq_true_eq]
    rcases hc with ⟨c, e⟩ | ⟨c, e⟩ <;> rcases hb with ⟨c2, e2⟩ | ⟨c2, e2⟩ <;> rw [e, e2] <;> omega
  · intro i j hi hj h1 h2
    simp only [Bool.and_eq_true, decide_eq_true_eq] at h1 h2
    by_cases c : i < j
    · exact c
    · have : gx S j ≤ gx S i := by
        by_cases e : i = j
        · rw [e]; exact Int.le_refl _
        · have := ris_le hr j i (by omega) hi; omega
      rcases hc with ⟨c, e⟩ | ⟨c, e⟩ <;> rw [e] at h1 h2 <;> omega
/-- the sensors that a front comes to -/
def psE (L : List Sg) (S : List Int) (p d : Int) : Int := if senB L S = true then mvE L p d else 1
def psK (T : Int) (S : List Int) (p d : Int) : List Int := onI S (p + 1) (min (p + d) (T - 1)) S.length ++ onI S 0 (p + d - T) S.length
def psV (L : List Sg) (S : List Int) (p d : Int) : List Int := if psE L S p d = 0 then psK (totL L) S p d else []
theorem cvE_ok {L : List Sg} {S : List Int} {p n : Int} (h : cvE L S p n = 0) : senB L S = true ∧ trE L p n = 0 := by
  unfold cvE at h; split at h
  · exact ⟨by assumption, h⟩
  · omega
theorem psE_ok {L : List Sg} {S : List Int} {p n : Int} (h : psE L S p n = 0) : senB L S = true ∧ mvE L p n = 0 := by
  unfold psE at h; split at h
  · exact ⟨by assumption, h⟩
  · omega
/-- how many sensors lie at a front or behind it -/
def fstS (S : List Int) (p : Int) : Nat → Nat
  | 0 => 0
  | k + 1 => if gx S k ≤ p then k + 1 else fstS S p k
/-- the sensor that is met as number k -/
def rotI (f n k : Nat) : Nat := (f + k) % n
/-- how far it is to sensor i -/
def dstS (T p s : Int) : Int := if (s - p) % T = 0 then T else (s - p) % T
/-- what is met by the first k -/
def metK (T : Int) (S : List Int) (p d : Int) (f k : Nat) : List Int := ((List.range k).filter fun j => decide (dstS T p (gx S (rotI f S.length j)) ≤ d)).map fun (j : Nat) => ((rotI f S.length j : Nat) : Int)
theorem metK_0 (T : Int) (S : List Int) (p d : Int) (f : Nat) : metK T S p d f 0 = [] := by simp [metK]
theorem metK_succ (T : Int) (S : List Int) (p d : Int) (f k : Nat) : metK T S p d f (k + 1) = if dstS T p (gx S (rotI f S.length k)) ≤ d then metK T S p d f k ++ [((rotI f S.length k : Nat) : Int)] else metK T S p d f k := by
  unfold metK; rw [List.range_succ, List.filter_append, List.map_append]
  by_cases h1 : dstS T p (gx S (rotI f S.length k)) ≤ d <;> simp [h1]
theorem metK_len (T : Int) (S : List Int) (p d : Int) (f k : Nat) : (metK T S p d f k).length ≤ k := by
  unfold metK; rw [List.length_map]
  exact Nat.le_trans (List.length_filter_le _ _) (by simp)
theorem metK_mem (T : Int) (S : List Int) (p d : Int) (f k : Nat) (h0 : 0 < S.length) : ∀ x ∈ metK T S p d f k, 0 ≤ x ∧ x < S.length := by
  intro x hx
  unfold metK at hx
  rw [List.mem_map] at hx
  obtain ⟨i, hi, rfl⟩ := hx
  have : rotI f S.length i < S.length := Nat.mod_lt _ h0
  omega
/-- the cut: the first f lie at the front or behind it, the others ahead -/
def IsCut (S : List Int) (p : Int) (f : Nat) : Prop := f ≤ S.length ∧ (∀ i, i < f → gx S i ≤ p) ∧ (∀ i, f ≤ i → i < S.length → p < gx S i)
theorem isCut_of {S : List Int} {T p : Int} (hr : risB S T = true) {f : Nat} (hf : f ≤ S.length) (h1 : ∀ i, i < f → gx S i ≤ p) (h2 : f < S.length → p < gx S f) : IsCut S p f := by
  refine ⟨hf, h1, fun i hi hl => ?_⟩
  by_cases e : i = f
  · rw [e]; exact h2 (by omega)
  · have := ris_le hr f i (by omega) hl
    have := h2 (by omega); omega
theorem filter_shift (P : Nat → Bool) (f n : Nat) (hf : f ≤ n) (h : ∀ i, i < f → P i = false) : (List.range n).filter P = ((List.range (n - f)).map (f + ·)).filter P := by
  conv => lhs; rw [show n = f + (n - f) by omega, List.range_add, List.filter_append]
  have e : (List.range f).filter P = [] := by
    rw [List.filter_eq_nil_iff]
    intro j hj
    rw [h j (List.mem_range.1 hj)]; simp
  rw [e, List.nil_append]
theorem filter_cut (P : Nat → Bool) (f n : Nat) (hf : f ≤ n) (h : ∀ i, f ≤ i → i < n → P i = false) : (List.range n).filter P = (List.range f).filter P := by
  rw [show n = f + (n - f) by omega, List.range_add, List.filter_append]
  have e : ((List.range (n - f)).map (f + ·)).filter P = [] := by
    rw [List.filter_eq_nil_iff]
    intro j hj
    rw [List.mem_map] at hj
    obtain ⟨i, hi, rfl⟩ := hj
    have := List.mem_range.1 hi
    rw [h (f + i) (by omega) (by omega)]; simp
  rw [e, List.append_nil]
theorem rot_lo {f n k : Nat} (h : f + k < n) : rotI f n k = f + k := Nat.mod_eq_of_lt h
theorem rot_hi {f n k : Nat} (h : n ≤ f + k) (h2 : f + k < n + n) : rotI f n k = f + k - n := by
  unfold rotI; rw [Nat.mod_eq_sub_mod h, Nat.mod_eq_of_lt (by omega)]
theorem met_all {T : Int} {S : List Int} {p d : Int} {f : Nat} (hr : risB S T = true) (hp : 0 ≤ p ∧ p < T) (hd : 0 ≤ d ∧ d ≤ T) (hc : IsCut S p f) :
    metK T S p d f S.length = psK T S p d := by
  obtain ⟨hf, h1, h2⟩ := hc
  have rng : ∀ i, i < S.length → 0 ≤ gx S i ∧ gx S i < T := fun i hi => ⟨(ris_at hr i hi).1, (ris_at hr i hi).2.1⟩
  have dst : ∀ i, i < S.length → dstS T p (gx S i) = if p < gx S i then gx S i - p else gx S i - p + T := by
    intro i hi
    have := rng i hi
    unfold dstS
    have ha := ahead_cases (T := T) (a := p) (b := gx S i) hp this
    unfold ahead at ha
    rcases ha with ⟨c, e⟩ | ⟨c, e⟩ <;> rw [e] <;> split <;> split <;> omega
  unfold psK onI
  rw [filter_shift (fun i => decide (p + 1 ≤ gx S i) && decide (gx S i ≤ min (p + d) (T - 1))) f S.length hf (by intro i hi; have := h1 i hi; simp; omega),
    filter_cut (fun i => decide (0 ≤ gx S i) && decide (gx S i ≤ p + d - T)) f S.length hf (by intro i hi hl; have := h2 i hi hl; have := rng i hl; simp; omega)]
  unfold metK
  conv => lhs; rw [show List.range S.length = List.range ((S.length - f) + f) by congr 1; omega, List.range_add, List.filter_append, List.map_append]
  congr 1
  · rw [List.filter_map, List.map_map, List.map_congr_left (g := fun j => ((f + j : Nat) : Int))]
    · rw [List.filter_congr (q := (fun i => decide (p + 1 ≤ gx S i) && decide (gx S i ≤ min (p + d) (T - 1))) ∘ (f + ·))]
      · rfl
      · intro j hj
        have hj := List.mem_range.1 hj
        have e : rotI f S.length j = f + j := rot_lo (by omega)
        rw [e, dst (f + j) (by omega), if_pos (h2 (f + j) (by omega) (by omega))]
        have := h2 (f + j) (by omega) (by omega)
        have := rng (f + j) (by omega)
        rw [Bool.eq_iff_iff]; simp; omega
    · intro j hj
      have hj := List.mem_range.1 (List.mem_filter.1 hj).1
      simp only [rot_lo (f := f) (n := S.length) (k := j) (by omega)]
  · rw [List.filter_map, List.map_map, List.map_congr_left (g := fun j => ((j : Nat) : Int))]
    · rw [List.filter_congr (q := fun i => decide (0 ≤ gx S i) && decide (gx S i ≤ p + d - T))]
      intro j hj
      have hj := List.mem_range.1 hj
      have e : rotI f S.length (S.length - f + j) = j := by rw [rot_hi (by omega) (by omega)]; omega
      simp only [Function.comp]
      rw [e, dst j (by omega), if_neg (by have := h1 j hj; omega)]
      have := rng j (by omega)
      rw [Bool.eq_iff_iff]; simp; omega
    · intro j hj
      have hj := List.mem_range.1 (List.mem_filter.1 hj).1
      have e : rotI f S.length (S.length - f + j) = j := by rw [rot_hi (by omega) (by omega)]; omega
      simp only [Function.comp, e]
end Go.Proofs.Ytehinlecppbjeaa
namespace Go.Proofs.Ytehinlecppbjeaa
open Go.RowKit
set_option maxHeartbeats 4000000
set_option linter.unusedVariables false
set_option linter.unusedSimpArgs false
theorem tot_sm {L : List Sg} {n : Nat} (hl : L.length = n) (h26 : n ≤ 26) (hsm : ∀ x ∈ L, SmW x) : -273000000 ≤ totL L ∧ totL L ≤ 273000000 := by
  have t := upL_sm L hsm L.length (Nat.le_refl _)
  unfold totL; rw [hl] at t ⊢; omega
set_option maxRecDepth 100000 in
theorem s_DrawLength5 (B : Nat) (a : Option Addr) (len cap : Nat) (a' : Option Addr) (n cap' : Nat) (L : List Sg) (w : World) (hs : Src w B a len cap) (hl : Sgs w a' n L) (h26 : n ≤ 26) (hsm : ∀ x ∈ L, SmW x) (hne : ∀ x, a' = some x → 0 < n → x.block ≠ B) :
    Calls Try.prog 74 #[.pointer (some ⟨B, 0, none⟩), .agg #[.slice a' n cap']] w (Drawn w B a len cap (fun r => -1 ≤ r ∧ r ≤ 300000000 ∨ -300000000 ≤ r ∧ r ≤ 300000000)) := by
  have HS := Lib.hid hs
  have HL := Lib.hid hl
  have SM := Lib.hid hsm
  obtain ⟨t1, t2⟩ := tot_sm hl.1 h26 hsm
  have hBlt := hs.lt
  have HNE := Lib.hid hne
  clear hs hl hsm hne
  go_enter Try.func74, Try.ntmps74
  go_wp2_with fail
  have T0 := Lib.hid ((St.begin HS.out).box1 (.slice a' n cap') 26)
  refine (s_Next B a len cap 20 _ T0.out.src (by omega) (by omega)).mono ?_
  rintro e w1 ⟨c, rfl, x0, x1, x2, src, gr⟩
  have T1 := Lib.hid (T0.out.call src gr)
  have L1 := Lib.hid ((HL.out.later ((Later.refl _).alloc _)).grown0 gr (fun x hx hn e => by have h1 := HNE.out x hx hn; have h2 := Option.some.inj e; omega))
  clear gr src x2
  by_cases c0 : c = 0
  · subst c0
    obtain ⟨d1, d2⟩ := St.s1 T1.out
    have hb1 := cell_lt d1
    have KG : Hid (∀ W', Later w1 W' → W'.cell? ⟨w.heap.size, 0, none⟩ = some (.slice a' n cap')) := Lib.hid (fun W' k => by rw [k.cell (p := ⟨w.heap.size, 0, none⟩) hb1]; exact d1)
    have hwr : IntKind.i64.wrap (totL L + 1) = totL L + 1 := IntWalk.i64_in _ (by omega)
    go_wp2_with fail
    go_region_held3 (fun w' => w'.cell? ⟨w.heap.size, 0, none⟩ = some (.slice a' n cap')) (first | (refine KG.out _ ?_; ((repeat (first | (with_reducible exact Later.refl _) | (with_reducible exact Hid.out (by assumption)) | (with_reducible refine Later.alloc ?_ _) | (with_reducible refine Later.setCell ?_ (by simp; omega) _) | (with_reducible refine Later.setCell ?_ (by simp) _) | (with_reducible refine Later.drewN ?_ _) | (with_reducible refine Later.drew ?_) | (with_reducible refine Later.trans ?_ (Hid.out (by assumption))))); done)) | (refine (St.s1 (B := B) (a := a) (len := len) (cap := cap) (w0 := w) (Hid.out ?_)).1; assumption))
      (first
        | (go_at_call 73; refine (s_Total_sm a' n cap' L _ (L1.out.later (by repeat (first | (with_reducible exact Later.refl _) | (with_reducible exact Hid.out (by assumption)) | (with_reducible refine Later.alloc ?_ _) | (with_reducible refine Later.setCell ?_ (by simp; omega) _) | (with_reducible refine Later.setCell ?_ (by simp) _) | (with_reducible refine Later.drewN ?_ _) | (with_reducible refine Later.drew ?_) | (with_reducible refine Later.trans ?_ (Hid.out (by assumption)))))) h26 SM.out).mono ?_; rintro e w4 ⟨rfl, hb⟩; have H4 := Lib.hid hb; clear hb; have z4 : w1.heap.size ≤ w4.heap.size := (show Later w1 w4 from (by repeat (first | (with_reducible exact Later.refl _) | (with_reducible exact Hid.out (by assumption)) | (with_reducible refine Later.alloc ?_ _) | (with_reducible refine Later.setCell ?_ (by simp; omega) _) | (with_reducible refine Later.setCell ?_ (by simp) _) | (with_reducible refine Later.drewN ?_ _) | (with_reducible refine Later.drew ?_) | (with_reducible refine Later.trans ?_ (Hid.out (by assumption)))))).size)
        | (go_at_call 120; refine (s_Pick B a len cap _ 7 7 [0, 1, -1, 40000, 40001, totL L, totL L + 1] _ (T1.out.later (by repeat (first | (with_reducible exact Later.refl _) | (with_reducible exact Hid.out (by assumption)) | (with_reducible refine Later.alloc ?_ _) | (with_reducible refine Later.setCell ?_ (by simp; omega) _) | (with_reducible refine Later.setCell ?_ (by simp) _) | (with_reducible refine Later.drewN ?_ _) | (with_reducible refine Later.drew ?_) | (with_reducible refine Later.trans ?_ (Hid.out (by assumption)))))).src (sl_new _ [0, 1, -1, 40000, 40001, totL L, totL L + 1] 2 (by simp) (by intro x hx; simp at hx; unfold InR; omega)) (by simp; omega) (by omega)).mono ?_; rintro e w5 ⟨v, rfl, hv, src, gr⟩; have HV : Hid (-300000000 ≤ v ∧ v ≤ 300000000) := Lib.hid (by simp at hv; omega); have T5 := Lib.hid ((T1.out.later (by repeat (first | (with_reducible exact Later.refl _) | (with_reducible exact Hid.out (by assumption)) | (with_reducible refine Later.alloc ?_ _) | (with_reducible refine Later.setCell ?_ (by simp; omega) _) | (with_reducible refine Later.setCell ?_ (by simp) _) | (with_reducible refine Later.drewN ?_ _) | (with_reducible refine Later.drew ?_) | (with_reducible refine Later.trans ?_ (Hid.out (by assumption)))))).call src gr); clear src gr hv))
    all_goals
      go_wp2_with fail
      go_ret
      exact ⟨v, rfl, .inr HV.out, T5.out.src, T5.out.grown⟩
  · have e0 : (c == 0) = false := by simpa using c0
    clear c0
    go_wp2_with fail
    refine (s_Next B a len cap 12000 _ T1.out.src (by omega) (by omega)).mono ?_
    rintro e w2 ⟨v, rfl, v0, v1, v2, src, gr⟩
    have T2 := Lib.hid (T1.out.call src gr)
    have hv := v1 (by omega)
    clear gr src v1 v2
    go_wp2_with fail
    go_ret
    exact ⟨1000 + v, rfl, .inr (by omega), T2.out.src, T2.out.grown⟩
set_option maxRecDepth 100000 in
theorem s_DrawDistance5 (B : Nat) (a : Option Addr) (len cap : Nat) (a' : Option Addr) (n cap' : Nat) (L : List Sg) (w : World) (hs : Src w B a len cap) (hl : Sgs w a' n L) (h26 : n ≤ 26) (hsm : ∀ x ∈ L, SmW x) :
    Calls Try.prog 69 #[.pointer (some ⟨B, 0, none⟩), .agg #[.slice a' n cap']] w (Drawn w B a len cap InR) := by
  have HS := Lib.hid hs
  have HL := Lib.hid hl
  have SM := Lib.hid hsm
  obtain ⟨t1, t2⟩ := tot_sm hl.1 h26 hsm
  have hBlt := hs.lt
  clear hs hl hsm
  have key : ∀ m : Int, (totL L ≤ 1 ∧ m = 1) ∨ (1 < totL L ∧ m = totL L) → Calls Try.prog 69 #[.pointer (some ⟨B, 0, none⟩), .agg #[.slice a' n cap']] w (Drawn w B a len cap InR) := by
    intro m hm
    go_enter Try.func69, Try.ntmps69
    go_wp2_with fail
    have T0 := Lib.hid ((St.begin HS.out).box1 (.slice a' n cap') 26)
    refine (s_Total_sm a' n cap' L _ (HL.out.later ((Later.refl _).alloc _)) h26 SM.out).mono ?_
    rintro e w1 ⟨rfl, hb⟩
    have T1 := Lib.hid (T0.out.later hb)
    clear hb
    rcases hm with ⟨h1, rfl⟩ | ⟨h1, rfl⟩
    all_goals
      go_wp2_with fail
      refine (s_Next B a len cap _ _ T1.out.src (by omega) (by omega)).mono ?_
      rintro e w2 ⟨x, rfl, x0, x1, x2, src, gr⟩
      have T2 := Lib.hid (T1.out.call src gr)
      have hx : x ≤ 300000000 := by first | (have := x1 (by omega); omega) | (have := x2 (by omega); omega)
      clear gr src x1 x2
      go_wp2_with fail
      refine (s_Next B a len cap _ _ T2.out.src (by omega) (by omega)).mono ?_
      rintro e w3 ⟨y, rfl, y0, y1, y2, src, gr⟩
      have T3 := Lib.hid (T2.out.call src gr)
      have hy := y1 (by omega)
      clear gr src y1 y2
      go_wp2_with fail
      refine (s_Next B a len cap _ _ T3.out.src (by omega) (by omega)).mono ?_
      rintro e w4 ⟨z, rfl, z0, z1, z2, src, gr⟩
      have T4 := Lib.hid (T3.out.call src gr)
      have hz : z ≤ 300000000 := by first | (have := z1 (by omega); omega) | (have := z2 (by omega); omega)
      clear gr src z1 z2
      go_wp2_with fail
      have hl3 := sl_new w4 [0, -1, totL L + 1] 2 (by simp) (by intro x hx; simp at hx; unfold InR; omega)
      refine (s_Pick B a len cap ⟨w4.heap.size, 0, none⟩ 3 3 _ _ (T4.out.src.alloc _) hl3 (by have := T4.out.src.lt; show w4.heap.size ≠ B; omega) (by omega)).mono ?_
      rintro e w5 ⟨u, rfl, hu, src, gr⟩
      have T5 := Lib.hid ((T4.out.alloc _).call src gr)
      have hu2 : -300000000 ≤ u ∧ u ≤ 300000000 := by simp at hu; omega
      clear gr src hu hl3
      go_wp2_with fail
      have hl5 := sl_new w5 [x, y, z, totL L, u] 2 (by simp) (by intro x hx; simp at hx; unfold InR; omega)
      refine (s_Pick B a len cap ⟨w5.heap.size, 0, none⟩ 5 5 _ _ (T5.out.src.alloc _) hl5 (by have := T5.out.src.lt; show w5.heap.size ≠ B; omega) (by omega)).mono ?_
      rintro e w6 ⟨v, rfl, hv, src, gr⟩
      have T6 := Lib.hid ((T5.out.alloc _).call src gr)
      have HV : Hid (InR v) := Lib.hid (by simp at hv; unfold InR; omega)
      clear gr src hv hl5
      go_wp2_with fail
      go_ret
      exact ⟨v, rfl, HV.out, T6.out.src, T6.out.grown⟩
  by_cases hT : totL L ≤ 1
  · exact key 1 (.inl ⟨hT, rfl⟩)
  · exact key (totL L) (.inr ⟨by omega, rfl⟩)
end Go.Proofs.Ytehinlecppbjeaa
namespace Go.Proofs.Ytehinlecppbjeaa
open Go.RowKit
set_option maxHeartbeats 4000000
set_option linter.unusedVariables false
set_option linter.unusedSimpArgs false
theorem drawn_mono {w : World} {B : Nat} {a : Option Addr} {len cap : Nat} {P Q : Int → Prop} (h : ∀ r, P r → Q r) {e : Ending} {w' : World} (k : Drawn w B a len cap P e w') : Drawn w B a len cap Q e w' := by
  obtain ⟨r, h1, h2, h3⟩ := k; exact ⟨r, h1, h r h2, h3⟩
/-- a drawn layout and two numbers -/
def DrawnL2 (w : World) (e : Ending) (w' : World) : Prop :=
  ∃ (a' : Option Addr) (n cap' : Nat) (L : List Sg) (p q : Int), e = .returned (.tuple #[.agg #[.slice a' n cap'], .int .i64 p, .int .i64 q]) ∧ Sgs w' a' n L ∧ n ≤ cap' ∧ InR p ∧ InR q ∧ Below w.heap.size w w'
set_option maxRecDepth 100000 in
theorem s_DrawMoveFront (a : Option Addr) (len cap : Nat) (w : World) (hs : Bytes w a len) :
    Calls Try.prog 18 #[.slice a len cap] w (DrawnL2 w) := by
  have HS := Lib.hid hs
  clear hs
  go_enter Try.func18, Try.ntmps18
  go_wp2_with fail
  refine (s_From a len cap _ (HS.out.later ((Below.refl _ _).alloc (Nat.le_refl _) _))).mono ?_
  rintro e w1 ⟨rfl, src, lt, bel⟩
  rw [World.size_alloc] at src lt bel ⊢
  have S1 := Lib.hid src
  have BL := Lib.hid bel
  clear src bel
  go_wp2_with fail
  refine (s_Draw (w.heap.size + 1) a len cap _ S1.out).mono ?_
  rintro e w2 ⟨a', n, cap', L, rfl, hl, hcap, h26, hsm, hbl, src, gr⟩
  obtain ⟨d2, b1, rc, rf, hz1⟩ := dl_begin S1.out BL.out hl hbl src gr
  have D2 := Lib.hid d2
  have B1 := Lib.hid b1
  have RC := Lib.hid rc; have RF := Lib.hid rf
  have SM : Hid (∀ x ∈ L, SmW x) := Lib.hid (fun x hx => (hsm x hx).w)
  have hz2 := gr.size
  have hn1 : w2.heap.size ≠ w.heap.size := by omega
  have hn2 : w.heap.size ≠ w2.heap.size := by omega
  have D3 := Lib.hid (D2.out.box (.slice a' n cap') 26)
  clear hl hbl src gr d2 b1 rc rf hsm lt S1 BL D2
  go_wp2_with fail
  go_region_held3 (fun w' => w'.cell? ⟨w2.heap.size, 0, none⟩ = some (.slice a' n cap')) (first | (refine DL.c1 (l := []) (g := w.heap.size) (a' := a') (n := n) (L := L) (B := w.heap.size + 1) (a := a) (len := len) (cap := cap) (w0 := w1) ?_; ((repeat (first | (with_reducible exact Hid.out (by assumption)) | (with_reducible refine DL.alloc ?_ _) | (with_reducible refine DL.drewN ?_ _) | (with_reducible refine DL.drew ?_) | (with_reducible refine DL.later ?_ (Hid.out (by assumption))))); done)) | (rw [World.cell?_setCell_other _ _ _ _ (by simp [hn1, hn2])]; refine DL.c1 (l := []) (g := w.heap.size) (a' := a') (n := n) (L := L) (B := w.heap.size + 1) (a := a) (len := len) (cap := cap) (w0 := w1) ?_; ((repeat (first | (with_reducible exact Hid.out (by assumption)) | (with_reducible refine DL.alloc ?_ _) | (with_reducible refine DL.drewN ?_ _) | (with_reducible refine DL.drew ?_) | (with_reducible refine DL.later ?_ (Hid.out (by assumption))))); done)))
    (first
      | (go_at_call 68; refine (s_DrawPositionW (w.heap.size + 1) a len cap a' n cap' L _ (show DL [(w2.heap.size, 0, .slice a' n cap')] w.heap.size a' n L (w.heap.size + 1) a len cap w1 _ from (by repeat (first | (with_reducible exact Hid.out (by assumption)) | (with_reducible refine DL.alloc ?_ _) | (with_reducible refine DL.drewN ?_ _) | (with_reducible refine DL.drew ?_) | (with_reducible refine DL.later ?_ (Hid.out (by assumption)))))).src (show DL [(w2.heap.size, 0, .slice a' n cap')] w.heap.size a' n L (w.heap.size + 1) a len cap w1 _ from (by repeat (first | (with_reducible exact Hid.out (by assumption)) | (with_reducible refine DL.alloc ?_ _) | (with_reducible refine DL.drewN ?_ _) | (with_reducible refine DL.drew ?_) | (with_reducible refine DL.later ?_ (Hid.out (by assumption)))))).sg h26 SM.out).mono ?_; rintro e w5 ⟨p, rfl, hp, src, gr⟩; have Hp := Lib.hid hp; have D5 := Lib.hid (DL.call (show DL [(w2.heap.size, 0, .slice a' n cap')] w.heap.size a' n L (w.heap.size + 1) a len cap w1 _ from (by repeat (first | (with_reducible exact Hid.out (by assumption)) | (with_reducible refine DL.alloc ?_ _) | (with_reducible refine DL.drewN ?_ _) | (with_reducible refine DL.drew ?_) | (with_reducible refine DL.later ?_ (Hid.out (by assumption)))))) src gr); have rc5 := D5.out.old RC.out (by omega); have rf5 := D5.out.oldF RC.out RF.out (by omega); clear src gr hp)
      | (go_at_call 69; refine (s_DrawDistance5 (w.heap.size + 1) a len cap a' n cap' L _ (show DL [(w2.heap.size, 0, .slice a' n cap')] w.heap.size a' n L (w.heap.size + 1) a len cap w1 _ from (by repeat (first | (with_reducible exact Hid.out (by assumption)) | (with_reducible refine DL.alloc ?_ _) | (with_reducible refine DL.drewN ?_ _) | (with_reducible refine DL.drew ?_) | (with_reducible refine DL.later ?_ (Hid.out (by assumption)))))).src (show DL [(w2.heap.size, 0, .slice a' n cap')] w.heap.size a' n L (w.heap.size + 1) a len cap w1 _ from (by repeat (first | (with_reducible exact Hid.out (by assumption)) | (with_reducible refine DL.alloc ?_ _) | (with_reducible refine DL.drewN ?_ _) | (with_reducible refine DL.drew ?_) | (with_reducible refine DL.later ?_ (Hid.out (by assumption)))))).sg h26 SM.out).mono ?_; rintro e w6 ⟨q, rfl, hq, src, gr⟩; have Hq := Lib.hid hq; have D6 := Lib.hid (DL.call (show DL [(w2.heap.size, 0, .slice a' n cap')] w.heap.size a' n L (w.heap.size + 1) a len cap w1 _ from (by repeat (first | (with_reducible exact Hid.out (by assumption)) | (with_reducible refine DL.alloc ?_ _) | (with_reducible refine DL.drewN ?_ _) | (with_reducible refine DL.drew ?_) | (with_reducible refine DL.later ?_ (Hid.out (by assumption)))))) src gr); have rc6 := D6.out.old RC.out (by omega); have rf6 := D6.out.oldF RC.out RF.out (by omega); clear src gr hq))
  all_goals
    go_wp2_with fail
    refine bodyPost_ret (v := .tuple #[.agg #[.slice a' n cap'], .int .i64 p, .int .i64 q]) (by simp [results, Try.results18, go_sem, *]) rfl ⟨a', n, cap', L, p, q, rfl, D6.out.set _ _, hcap, Hp.out, Hq.out, (dl_below D6.out B1.out).setCell (Nat.le_refl _) _⟩

set_option maxRecDepth 100000 in
theorem s_DrawRearOf (a : Option Addr) (len cap : Nat) (w : World) (hs : Bytes w a len) :
    Calls Try.prog 21 #[.slice a len cap] w (DrawnL2 w) := by
  have HS := Lib.hid hs
  clear hs
  go_enter Try.func21, Try.ntmps21
  go_wp2_with fail
  refine (s_From a len cap _ (HS.out.later ((Below.refl _ _).alloc (Nat.le_refl _) _))).mono ?_
  rintro e w1 ⟨rfl, src, lt, bel⟩
  rw [World.size_alloc] at src lt bel ⊢
  have S1 := Lib.hid src
  have BL := Lib.hid bel
  clear src bel
  go_wp2_with fail
  refine (s_Draw (w.heap.size + 1) a len cap _ S1.out).mono ?_
  rintro e w2 ⟨a', n, cap', L, rfl, hl, hcap, h26, hsm, hbl, src, gr⟩
  obtain ⟨d2, b1, rc, rf, hz1⟩ := dl_begin S1.out BL.out hl hbl src gr
  have D2 := Lib.hid d2
  have B1 := Lib.hid b1
  have RC := Lib.hid rc; have RF := Lib.hid rf
  have SM : Hid (∀ x ∈ L, SmW x) := Lib.hid (fun x hx => (hsm x hx).w)
  have hz2 := gr.size
  have hn1 : w2.heap.size ≠ w.heap.size := by omega
  have hn2 : w.heap.size ≠ w2.heap.size := by omega
  have D3 := Lib.hid (D2.out.box (.slice a' n cap') 26)
  clear hl hbl src gr d2 b1 rc rf hsm lt S1 BL D2
  go_wp2_with fail
  go_region_held3 (fun w' => w'.cell? ⟨w2.heap.size, 0, none⟩ = some (.slice a' n cap')) (first | (refine DL.c1 (l := []) (g := w.heap.size) (a' := a') (n := n) (L := L) (B := w.heap.size + 1) (a := a) (len := len) (cap := cap) (w0 := w1) ?_; ((repeat (first | (with_reducible exact Hid.out (by assumption)) | (with_reducible refine DL.alloc ?_ _) | (with_reducible refine DL.drewN ?_ _) | (with_reducible refine DL.drew ?_) | (with_reducible refine DL.later ?_ (Hid.out (by assumption))))); done)) | (rw [World.cell?_setCell_other _ _ _ _ (by simp [hn1, hn2])]; refine DL.c1 (l := []) (g := w.heap.size) (a' := a') (n := n) (L := L) (B := w.heap.size + 1) (a := a) (len := len) (cap := cap) (w0 := w1) ?_; ((repeat (first | (with_reducible exact Hid.out (by assumption)) | (with_reducible refine DL.alloc ?_ _) | (with_reducible refine DL.drewN ?_ _) | (with_reducible refine DL.drew ?_) | (with_reducible refine DL.later ?_ (Hid.out (by assumption))))); done)))
    (first
      | (go_at_call 68; refine (s_DrawPositionW (w.heap.size + 1) a len cap a' n cap' L _ (show DL [(w2.heap.size, 0, .slice a' n cap')] w.heap.size a' n L (w.heap.size + 1) a len cap w1 _ from (by repeat (first | (with_reducible exact Hid.out (by assumption)) | (with_reducible refine DL.alloc ?_ _) | (with_reducible refine DL.drewN ?_ _) | (with_reducible refine DL.drew ?_) | (with_reducible refine DL.later ?_ (Hid.out (by assumption)))))).src (show DL [(w2.heap.size, 0, .slice a' n cap')] w.heap.size a' n L (w.heap.size + 1) a len cap w1 _ from (by repeat (first | (with_reducible exact Hid.out (by assumption)) | (with_reducible refine DL.alloc ?_ _) | (with_reducible refine DL.drewN ?_ _) | (with_reducible refine DL.drew ?_) | (with_reducible refine DL.later ?_ (Hid.out (by assumption)))))).sg h26 SM.out).mono ?_; rintro e w5 ⟨p, rfl, hp, src, gr⟩; have Hp := Lib.hid hp; have D5 := Lib.hid (DL.call (show DL [(w2.heap.size, 0, .slice a' n cap')] w.heap.size a' n L (w.heap.size + 1) a len cap w1 _ from (by repeat (first | (with_reducible exact Hid.out (by assumption)) | (with_reducible refine DL.alloc ?_ _) | (with_reducible refine DL.drewN ?_ _) | (with_reducible refine DL.drew ?_) | (with_reducible refine DL.later ?_ (Hid.out (by assumption)))))) src gr); have rc5 := D5.out.old RC.out (by omega); have rf5 := D5.out.oldF RC.out RF.out (by omega); clear src gr hp)
      | (go_at_call 74; refine ((s_DrawLength5 (w.heap.size + 1) a len cap a' n cap' L _ (show DL [(w2.heap.size, 0, .slice a' n cap')] w.heap.size a' n L (w.heap.size + 1) a len cap w1 _ from (by repeat (first | (with_reducible exact Hid.out (by assumption)) | (with_reducible refine DL.alloc ?_ _) | (with_reducible refine DL.drewN ?_ _) | (with_reducible refine DL.drew ?_) | (with_reducible refine DL.later ?_ (Hid.out (by assumption)))))).src (show DL [(w2.heap.size, 0, .slice a' n cap')] w.heap.size a' n L (w.heap.size + 1) a len cap w1 _ from (by repeat (first | (with_reducible exact Hid.out (by assumption)) | (with_reducible refine DL.alloc ?_ _) | (with_reducible refine DL.drewN ?_ _) | (with_reducible refine DL.drew ?_) | (with_reducible refine DL.later ?_ (Hid.out (by assumption)))))).sg h26 SM.out (show DL [(w2.heap.size, 0, .slice a' n cap')] w.heap.size a' n L (w.heap.size + 1) a len cap w1 _ from (by repeat (first | (with_reducible exact Hid.out (by assumption)) | (with_reducible refine DL.alloc ?_ _) | (with_reducible refine DL.drewN ?_ _) | (with_reducible refine DL.drew ?_) | (with_reducible refine DL.later ?_ (Hid.out (by assumption)))))).nB).mono (fun e w' => drawn_mono (Q := InR) (fun r hr => ⟨by omega, by omega⟩))).mono ?_; rintro e w6 ⟨q, rfl, hq, src, gr⟩; have Hq := Lib.hid hq; have D6 := Lib.hid (DL.call (show DL [(w2.heap.size, 0, .slice a' n cap')] w.heap.size a' n L (w.heap.size + 1) a len cap w1 _ from (by repeat (first | (with_reducible exact Hid.out (by assumption)) | (with_reducible refine DL.alloc ?_ _) | (with_reducible refine DL.drewN ?_ _) | (with_reducible refine DL.drew ?_) | (with_reducible refine DL.later ?_ (Hid.out (by assumption)))))) src gr); have rc6 := D6.out.old RC.out (by omega); have rf6 := D6.out.oldF RC.out RF.out (by omega); clear src gr hq))
  all_goals
    go_wp2_with fail
    refine bodyPost_ret (v := .tuple #[.agg #[.slice a' n cap'], .int .i64 p, .int .i64 q]) (by simp [results, Try.results21, go_sem, *]) rfl ⟨a', n, cap', L, p, q, rfl, D6.out.set _ _, hcap, Hp.out, Hq.out, (dl_below D6.out B1.out).setCell (Nat.le_refl _) _⟩

end Go.Proofs.Ytehinlecppbjeaa
namespace Go.Proofs.Ytehinlecppbjeaa
open Go.RowKit
set_option maxHeartbeats 2000000
set_option linter.unusedVariables false
set_option linter.unusedSimpArgs false
theorem i_isPosition (T p : Int) (w : World) : Calls Try.prog 123 #[.int .i64 T, .int .i64 p] w fun e w' => e = .returned (.bool (isP T p)) ∧ w = w' := by
  go_enter Try.func123, Try.ntmps123
  go_wp2
  all_goals
    go_ret
    exact ⟨ret_b (by unfold isP; first | (simp_all; done) | (simp_all; omega)), rfl⟩
theorem i_isMove (T p d : Int) (w : World) : Calls Try.prog 70 #[.int .i64 T, .int .i64 p, .int .i64 d] w fun e w' => e = .returned (.bool (mvB T p d)) ∧ w = w' := by
  cases hp : isP T p
  · go_enter Try.func70, Try.ntmps70
    go_wp2_with (go_at_call 123; refine (i_isPosition _ _ _).mono ?_; rw [hp]; rintro e w' ⟨rfl, rfl⟩)
    go_ret
    exact ⟨ret_b (by unfold mvB; rw [hp]; rfl), rfl⟩
  · go_enter Try.func70, Try.ntmps70
    go_wp2_with (go_at_call 123; refine (i_isPosition _ _ _).mono ?_; rw [hp]; rintro e w' ⟨rfl, rfl⟩)
    all_goals
      go_ret
      exact ⟨ret_b (by unfold mvB; rw [hp]; first | (simp_all; done) | (simp_all; omega)), rfl⟩
theorem sl_lat {w w' : World} {a : Option Addr} {n : Nat} {l : List Int} (h : Sl w a n l) (hb : Later w w') : Sl w' a n l := sl_later h hb
/-- a slice of one, of two elements, as a call lays it -/
theorem sl_one (w : World) (T : TypeId) (p : Int) (hp : InR p) : Sl (w.alloc (.cells #[.int .i64 p] T)) (some ⟨w.heap.size, 0, none⟩) 1 [p] := by
  refine ⟨rfl, by omega, fun k hk => ⟨_, 0, rfl, ?_⟩, fun x hx => by simp at hx; rw [hx]; exact hp⟩
  obtain rfl : k = 0 := by omega
  rw [Nat.zero_add, cell_of_row _ _ 0 _ T (0, 0) (heap_alloc_new w _)]; rfl
theorem sl_two (w : World) (T : TypeId) (p q : Int) (hp : InR p) (hq : InR q) : Sl (w.alloc (.cells #[.int .i64 p, .int .i64 q] T)) (some ⟨w.heap.size, 0, none⟩) 2 [p, q] := by
  refine ⟨rfl, by omega, fun k hk => ⟨_, 0, rfl, ?_⟩, fun x hx => by simp at hx; rcases hx with rfl | rfl <;> assumption⟩
  have : k = 0 ∨ k = 1 := by omega
  rcases this with rfl | rfl
  · rw [Nat.zero_add, cell_of_row _ _ 0 _ T (0, 0) (heap_alloc_new w _)]; rfl
  · rw [Nat.zero_add, cell_of_row _ _ 1 _ T (0, 0) (heap_alloc_new w _)]; rfl
theorem i_areTrains (T n : Int) (a : Option Addr) (m cap : Nat) (F : List Int) (w : World) (hf : Sl w a m F) :
    Calls Try.prog 75 #[.int .i64 T, .int .i64 n, .slice a m cap] w fun e w' => e = .returned (.bool (trsB T n F)) ∧ w = w' := by
  have HF := Lib.hid hf
  have hm := hf.2.1
  have HM := Lib.hid hf.1
  clear hf
  cases hn : isN T n
  · have HT : Hid (trsB T n F = false) := Lib.hid (by unfold trsB; rw [hn]; rfl)
    rw [isN_no] at hn
    have hn' : n < 1 ∨ (1 ≤ n ∧ 40000 < n) ∨ (1 ≤ n ∧ n ≤ 40000 ∧ T < n) := by omega
    clear hn
    rcases hn' with h | ⟨h, h2⟩ | ⟨h, h2, h3⟩
    all_goals
      go_enter Try.func75, Try.ntmps75
      go_wp2
      go_ret
      exact ⟨ret_b (by rw [HT.out]), rfl⟩
  · have HT : Hid (trsB T n F = allP T F) := Lib.hid (by unfold trsB; rw [hn]; rfl)
    rw [isN_iff] at hn
    obtain ⟨h1, h2, h3⟩ := hn
    go_enter Try.func75, Try.ntmps75
    go_wp2
    go_loop [22] (fun i => ∃ k : Nat, k ≤ m ∧ i = .int .i64 k ∧ ∀ j, j < k → isP T (gx F j) = true) (fun i => m - (intOf i).toNat)
    case atStart => exact ⟨0, by omega, rfl, fun j hj => by omega⟩
    case round =>
      obtain ⟨k, hk, rfl, hok⟩ := hrel
      have HO := Lib.hid hok
      clear hok
      by_cases hlt : k < m
      · obtain ⟨b, off, rfl, hc⟩ := HF.out.at k hlt
        cases hp : isP T (gx F k)
        · have HN : Hid (allP T F = false) := Lib.hid (allP_no (by rw [HM.out]; exact hlt) hp)
          go_wp2_with (go_at_call 123; refine (i_isPosition _ _ _).mono ?_; rw [hp]; rintro e w' ⟨rfl, rfl⟩)
          go_ret
          exact ⟨ret_b (by rw [HT.out, HN.out]), rfl⟩
        · have HP := Lib.hid hp
          go_wp2_with (go_at_call 123; refine (i_isPosition _ _ _).mono ?_; rw [hp]; rintro e w' ⟨rfl, rfl⟩)
          go_round
          case rel =>
            refine ⟨k + 1, by omega, by go_num, fun j hj => ?_⟩
            by_cases e : j = k
            · rw [e]; exact HP.out
            · exact HO.out j (by omega)
          case measure => simp [intOf]; omega
      · obtain rfl : k = m := by omega
        have HN : Hid (allP T F = true) := Lib.hid (allP_of (by rw [HM.out]; exact HO.out))
        go_wp2
        go_ret
        exact ⟨ret_b (by rw [HT.out, HN.out]), rfl⟩
theorem i_around (T n : Int) (w : World) (hT : 0 < T) (hT2 : T ≤ 100000000) (hn : -T ≤ n) (hn2 : n ≤ 100000000) :
    Calls Try.prog 71 #[.int .i64 T, .int .i64 n] w fun e w' => e = .returned (.int .i64 (n % T)) ∧ w = w' := by
  have h0 := (tmod_facts (n + T) T (by omega)).2.1 (by omega)
  have h1 := ((tmod_facts (n + T) T (by omega)).2.2.2.1 hT).1
  go_enter Try.func71, Try.ntmps71
  go_wp2
  go_ret
  exact ⟨ret_i64 (by simp), rfl⟩
theorem mod_rng (n T : Int) (hT : 0 < T) : 0 ≤ n % T ∧ n % T < T := ⟨Int.emod_nonneg n (by omega), Int.emod_lt_of_pos n hT⟩
theorem i_rearAt (T p n : Int) (w : World) (hT : 0 < T) (hT2 : T ≤ 4800000) (hp : 0 ≤ p) (hp2 : p < T) (hn : 1 ≤ n) (hn2 : n ≤ T) :
    Calls Try.prog 76 #[.int .i64 T, .int .i64 p, .int .i64 n] w fun e w' => e = .returned (.int .i64 (rearK T p n)) ∧ w = w' := by
  have HR : Hid (rearK T p n = (p - n + 1) % T) := Lib.hid rfl
  go_enter Try.func76, Try.ntmps76
  go_wp2_with (go_at_call 71; refine (i_around T (p - n + 1) _ hT (by omega) (by omega) (by omega)).mono ?_; rintro e w' ⟨rfl, rfl⟩)
  go_ret
  exact ⟨ret_i64 HR.out.symm, rfl⟩
theorem ret_iv2 {a b c d a' b' c' d' : Int} (h1 : a = a') (h2 : b = b') (h3 : c = c') (h4 : d = d') : Ending.returned (.tuple #[.agg #[.int .i64 a, .int .i64 b], .agg #[.int .i64 c, .int .i64 d]]) = .returned (.tuple #[.agg #[.int .i64 a', .int .i64 b'], .agg #[.int .i64 c', .int .i64 d']]) := by rw [h1, h2, h3, h4]
theorem i_partsOf (T f c : Int) (w : World) (hT : 0 < T) (hT2 : T ≤ 4800000) (hf : 0 ≤ f) (hf2 : f ≤ T) (hc : 0 ≤ c) (hc2 : c ≤ T) :
    Calls Try.prog 98 #[.int .i64 T, .int .i64 f, .int .i64 c] w fun e w' => e = .returned (.tuple #[.agg #[.int .i64 f, .int .i64 (min (f + c - 1) (T - 1))], .agg #[.int .i64 0, .int .i64 (f + c - 1 - T)]]) ∧ Later w w' := by
  have HM : Hid (∀ x y : Int, x ≤ y → min x y = x) := Lib.hid (fun x y h => Int.min_eq_left h)
  have HM2 : Hid (∀ x y : Int, y ≤ x → min x y = y) := Lib.hid (fun x y h => Int.min_eq_right h)
  by_cases hm : f + c - 1 ≤ T - 1
  · have HE := Lib.hid (HM.out _ _ hm)
    go_enter Try.func98, Try.ntmps98
    go_wp2
    refine bodyPost_ret (v := .tuple #[.agg #[.int .i64 f, .int .i64 (f + c - 1)], .agg #[.int .i64 0, .int .i64 (f + c - 1 - T)]]) (by simp [results, Try.results98, go_sem, *] <;> omega) rfl ⟨ret_iv2 rfl HE.out.symm rfl rfl, (by repeat (first | (with_reducible exact Later.refl _) | (with_reducible exact Hid.out (by assumption)) | (with_reducible refine Later.alloc ?_ _) | (with_reducible refine Later.setCell ?_ (by simp; omega) _) | (with_reducible refine Later.setCell ?_ (by simp) _) | (with_reducible refine Later.drewN ?_ _) | (with_reducible refine Later.drew ?_) | (with_reducible refine Later.trans ?_ (Hid.out (by assumption)))))⟩
  · have hm : T - 1 ≤ f + c - 1 := by omega
    have HE := Lib.hid (HM2.out _ _ hm)
    go_enter Try.func98, Try.ntmps98
    go_wp2
    refine bodyPost_ret (v := .tuple #[.agg #[.int .i64 f, .int .i64 (T - 1)], .agg #[.int .i64 0, .int .i64 (f + c - 1 - T)]]) (by simp [results, Try.results98, go_sem, *] <;> omega) rfl ⟨ret_iv2 rfl HE.out.symm rfl rfl, (by repeat (first | (with_reducible exact Later.refl _) | (with_reducible exact Hid.out (by assumption)) | (with_reducible refine Later.alloc ?_ _) | (with_reducible refine Later.setCell ?_ (by simp; omega) _) | (with_reducible refine Later.setCell ?_ (by simp) _) | (with_reducible refine Later.drewN ?_ _) | (with_reducible refine Later.drew ?_) | (with_reducible refine Later.trans ?_ (Hid.out (by assumption)))))⟩
theorem i_coveredParts (T p n : Int) (w : World) (hT : 0 < T) (hT2 : T ≤ 4800000) (hp : 0 ≤ p) (hp2 : p < T) (hn : 1 ≤ n) (hn2 : n ≤ T) :
    Calls Try.prog 102 #[.int .i64 T, .int .i64 p, .int .i64 n] w fun e w' => e = .returned (.tuple #[.agg #[.int .i64 (rearK T p n), .int .i64 (min (rearK T p n + n - 1) (T - 1))], .agg #[.int .i64 0, .int .i64 (rearK T p n + n - 1 - T)]]) ∧ Later w w' := by
  obtain ⟨r1, r2⟩ : 0 ≤ rearK T p n ∧ rearK T p n < T := mod_rng _ T hT
  generalize hr : rearK T p n = r at r1 r2 ⊢
  have HR := Lib.hid hr
  clear hr
  go_enter Try.func102, Try.ntmps102
  go_wp2_with fail
  refine (i_rearAt T p n _ hT hT2 hp hp2 hn hn2).mono ?_
  rw [HR.out]
  rintro e w' ⟨rfl, rfl⟩
  go_wp2_with fail
  refine (i_partsOf T r n _ hT hT2 r1 (by omega) (by omega) hn2).mono ?_
  rintro e w1 ⟨rfl, hb⟩
  have H := Lib.hid (show Later w w1 from Later.trans (by repeat (first | (with_reducible exact Later.refl _) | (with_reducible exact Hid.out (by assumption)) | (with_reducible refine Later.alloc ?_ _) | (with_reducible refine Later.setCell ?_ (by simp; omega) _) | (with_reducible refine Later.setCell ?_ (by simp) _) | (with_reducible refine Later.drewN ?_ _) | (with_reducible refine Later.drew ?_) | (with_reducible refine Later.trans ?_ (Hid.out (by assumption))))) hb)
  have F0 := Fr.o2 (fr_later (fr_alloc (X := w) (l := [.int .i64 0, .int .i64 0]) (Later.refl _)) (Later.trans ((Later.refl _).alloc _) hb))
  have F1 := Fr.o2 (fr_alloc (l := [.int .i64 0, .int .i64 0]) hb)
  rw [World.size_alloc] at F1
  obtain ⟨f0, f1, f2, f3⟩ := F0
  obtain ⟨k0, k1, k2, k3⟩ := F1
  have hz1 : w.heap.size + 1 < w1.heap.size := by have := hb.size; simp at this; omega
  have hz0 : w.heap.size < w1.heap.size := by omega
  clear hb
  go_wp2_with fail
  refine bodyPost_ret (v := .tuple #[.agg #[.int .i64 r, .int .i64 (min (r + n - 1) (T - 1))], .agg #[.int .i64 0, .int .i64 (r + n - 1 - T)]]) (by simp [results, Try.results102, go_sem, *] <;> omega) rfl ⟨rfl, (by repeat (first | (with_reducible exact Later.refl _) | (with_reducible exact Hid.out (by assumption)) | (with_reducible refine Later.alloc ?_ _) | (with_reducible refine Later.setCell ?_ (by simp; omega) _) | (with_reducible refine Later.setCell ?_ (by simp) _) | (with_reducible refine Later.drewN ?_ _) | (with_reducible refine Later.drew ?_) | (with_reducible refine Later.trans ?_ (Hid.out (by assumption)))))⟩
end Go.Proofs.Ytehinlecppbjeaa
namespace Go.Proofs.Ytehinlecppbjeaa
open Go.RowKit
set_option maxHeartbeats 2000000
set_option linter.unusedVariables false
set_option linter.unusedSimpArgs false
theorem s_l05Mod (n T : Int) (w : World) (hT : 0 < T) (hT2 : T ≤ 4000000000000000000) (hn : -9223372036854775808 ≤ n) (hn2 : n ≤ 9223372036854775807) :
    Calls Try.prog 78 #[.int .i64 n, .int .i64 T] w fun e w' => e = .returned (.int .i64 (n % T)) ∧ w = w' := by
  have HE := Lib.hid (mod_go2 n T hT)
  have f := tmod_facts n T (by omega)
  have f1 := (f.2.2.2.1 hT).1
  have f2 := (f.2.2.2.1 hT).2
  have g := tmod_facts (n.tmod T + T) T (by omega)
  have g0 := g.2.1 (by omega)
  have g1 := (g.2.2.2.1 hT).1
  clear f g
  go_enter Try.func78, Try.ntmps78
  go_wp2
  go_ret
  exact ⟨ret_i64 (by have h := HE.out; rw [Int.tmod_eq_emod_of_nonneg (by omega)] at h; first | exact h | (rw [← h]; simp; done)), rfl⟩
def cdE (L : List Sg) (p n lo hi : Int) : Int := if layB L = true then (if (0 ≤ p ∧ p < totL L) ∧ lo ≤ n ∧ n ≤ hi ∧ n ≤ totL L then 0 else 2) else 1
theorem s_l05Code (a : Option Addr) (n cap : Nat) (L : List Sg) (p q lo hi : Int) (w : World) (hs : Sgs w a n L) :
    Calls Try.prog 72 #[.agg #[.slice a n cap], .int .i64 p, .int .i64 q, .int .i64 lo, .int .i64 hi] w fun e w' => e = .returned (.int .i64 (cdE L p q lo hi)) ∧ Later w w' := by
  have HS := Lib.hid hs
  have HL := Lib.hid hs.1
  clear hs
  cases hv : layB L
  · have HE : Hid (cdE L p q lo hi = 1) := Lib.hid (by unfold cdE; rw [hv]; simp)
    go_enter Try.func72, Try.ntmps72
    go_wp2_with (go_at_call 84; refine (s_IsLayout a n cap L _ (HS.out.later (by repeat (first | (with_reducible exact Later.refl _) | (with_reducible exact Hid.out (by assumption)) | (with_reducible refine Later.alloc ?_ _) | (with_reducible refine Later.setCell ?_ (by simp; omega) _) | (with_reducible refine Later.setCell ?_ (by simp) _) | (with_reducible refine Later.drewN ?_ _) | (with_reducible refine Later.drew ?_) | (with_reducible refine Later.trans ?_ (Hid.out (by assumption))))))).mono ?_; rintro e w1 ⟨rfl, hb⟩; obtain ⟨H, hcc, hff, hzz⟩ := later_facts hb; clear hb; (try simp at hzz); (try simp only [World.heap_drewN, World.cell?_drewN, World.frozen?_drewN] at hcc hff))
    go_ret
    exact ⟨ret_i64 (by rw [HE.out]), (by repeat (first | (with_reducible exact Later.refl _) | (with_reducible exact Hid.out (by assumption)) | (with_reducible refine Later.alloc ?_ _) | (with_reducible refine Later.setCell ?_ (by simp; omega) _) | (with_reducible refine Later.setCell ?_ (by simp) _) | (with_reducible refine Later.drewN ?_ _) | (with_reducible refine Later.drew ?_) | (with_reducible refine Later.trans ?_ (Hid.out (by assumption)))))⟩
  · have HO := Lib.hid ((layB_iff L).1 hv).2.2.1
    have h24 := ((layB_iff L).1 hv).2.1
    rw [HL.out] at h24
    obtain ⟨t1, t2⟩ := tot_bd hv
    have NO : ¬ ((0 ≤ p ∧ p < totL L) ∧ lo ≤ q ∧ q ≤ hi ∧ q ≤ totL L) → Hid (cdE L p q lo hi = 2) := fun h => Lib.hid (by unfold cdE; rw [if_pos hv, if_neg h])
    by_cases hin : 0 ≤ p ∧ p ≤ totL L - 1
    · obtain ⟨p1, p2⟩ := hin
      by_cases hm : hi ≤ totL L
      · by_cases hq : lo ≤ q ∧ q ≤ hi
        · have HE : Hid (cdE L p q lo hi = 0) := Lib.hid (by unfold cdE; rw [if_pos hv, if_pos (by omega)])
          obtain ⟨q1, q2⟩ := hq
          clear NO
          go_enter Try.func72, Try.ntmps72
          go_wp2_with (first
            | (go_at_call 84; refine (s_IsLayout a n cap L _ (HS.out.later (by repeat (first | (with_reducible exact Later.refl _) | (with_reducible exact Hid.out (by assumption)) | (with_reducible refine Later.alloc ?_ _) | (with_reducible refine Later.setCell ?_ (by simp; omega) _) | (with_reducible refine Later.setCell ?_ (by simp) _) | (with_reducible refine Later.drewN ?_ _) | (with_reducible refine Later.drew ?_) | (with_reducible refine Later.trans ?_ (Hid.out (by assumption))))))).mono ?_; rintro e w1 ⟨rfl, hb⟩; obtain ⟨H, hcc, hff, hzz⟩ := later_facts hb; clear hb; (try simp at hzz); (try simp only [World.heap_drewN, World.cell?_drewN, World.frozen?_drewN] at hcc hff))
            | (go_at_call 73; refine (s_Total a n cap L _ (HS.out.later (by repeat (first | (with_reducible exact Later.refl _) | (with_reducible exact Hid.out (by assumption)) | (with_reducible refine Later.alloc ?_ _) | (with_reducible refine Later.setCell ?_ (by simp; omega) _) | (with_reducible refine Later.setCell ?_ (by simp) _) | (with_reducible refine Later.drewN ?_ _) | (with_reducible refine Later.drew ?_) | (with_reducible refine Later.trans ?_ (Hid.out (by assumption)))))) HO.out h24).mono ?_; rintro e w2 ⟨rfl, hb⟩; have H2 := Lib.hid hb; clear hb)
            | (go_at_call 108; refine (s_In _ _ _ _).mono ?_; rintro e w' ⟨rfl, rfl⟩))
          go_ret
          exact ⟨ret_i64 (by rw [HE.out]), (by repeat (first | (with_reducible exact Later.refl _) | (with_reducible exact Hid.out (by assumption)) | (with_reducible refine Later.alloc ?_ _) | (with_reducible refine Later.setCell ?_ (by simp; omega) _) | (with_reducible refine Later.setCell ?_ (by simp) _) | (with_reducible refine Later.drewN ?_ _) | (with_reducible refine Later.drew ?_) | (with_reducible refine Later.trans ?_ (Hid.out (by assumption)))))⟩
        · have HE := NO (by omega)
          have d : (decide (lo ≤ q) && decide (q ≤ hi)) = false := by simpa using hq
          clear NO hq
          go_enter Try.func72, Try.ntmps72
          go_wp2_with (first
            | (go_at_call 84; refine (s_IsLayout a n cap L _ (HS.out.later (by repeat (first | (with_reducible exact Later.refl _) | (with_reducible exact Hid.out (by assumption)) | (with_reducible refine Later.alloc ?_ _) | (with_reducible refine Later.setCell ?_ (by simp; omega) _) | (with_reducible refine Later.setCell ?_ (by simp) _) | (with_reducible refine Later.drewN ?_ _) | (with_reducible refine Later.drew ?_) | (with_reducible refine Later.trans ?_ (Hid.out (by assumption))))))).mono ?_; rintro e w1 ⟨rfl, hb⟩; obtain ⟨H, hcc, hff, hzz⟩ := later_facts hb; clear hb; (try simp at hzz); (try simp only [World.heap_drewN, World.cell?_drewN, World.frozen?_drewN] at hcc hff))
            | (go_at_call 73; refine (s_Total a n cap L _ (HS.out.later (by repeat (first | (with_reducible exact Later.refl _) | (with_reducible exact Hid.out (by assumption)) | (with_reducible refine Later.alloc ?_ _) | (with_reducible refine Later.setCell ?_ (by simp; omega) _) | (with_reducible refine Later.setCell ?_ (by simp) _) | (with_reducible refine Later.drewN ?_ _) | (with_reducible refine Later.drew ?_) | (with_reducible refine Later.trans ?_ (Hid.out (by assumption)))))) HO.out h24).mono ?_; rintro e w2 ⟨rfl, hb⟩; have H2 := Lib.hid hb; clear hb)
            | (go_at_call 108; refine (s_In _ _ _ _).mono ?_; rintro e w' ⟨rfl, rfl⟩))
          go_ret
          exact ⟨ret_i64 (by rw [HE.out]), (by repeat (first | (with_reducible exact Later.refl _) | (with_reducible exact Hid.out (by assumption)) | (with_reducible refine Later.alloc ?_ _) | (with_reducible refine Later.setCell ?_ (by simp; omega) _) | (with_reducible refine Later.setCell ?_ (by simp) _) | (with_reducible refine Later.drewN ?_ _) | (with_reducible refine Later.drew ?_) | (with_reducible refine Later.trans ?_ (Hid.out (by assumption)))))⟩
      · by_cases hq : lo ≤ q ∧ q ≤ totL L
        · have HE : Hid (cdE L p q lo hi = 0) := Lib.hid (by unfold cdE; rw [if_pos hv, if_pos (by omega)])
          obtain ⟨q1, q2⟩ := hq
          clear NO
          go_enter Try.func72, Try.ntmps72
          go_wp2_with (first
            | (go_at_call 84; refine (s_IsLayout a n cap L _ (HS.out.later (by repeat (first | (with_reducible exact Later.refl _) | (with_reducible exact Hid.out (by assumption)) | (with_reducible refine Later.alloc ?_ _) | (with_reducible refine Later.setCell ?_ (by simp; omega) _) | (with_reducible refine Later.setCell ?_ (by simp) _) | (with_reducible refine Later.drewN ?_ _) | (with_reducible refine Later.drew ?_) | (with_reducible refine Later.trans ?_ (Hid.out (by assumption))))))).mono ?_; rintro e w1 ⟨rfl, hb⟩; obtain ⟨H, hcc, hff, hzz⟩ := later_facts hb; clear hb; (try simp at hzz); (try simp only [World.heap_drewN, World.cell?_drewN, World.frozen?_drewN] at hcc hff))
            | (go_at_call 73; refine (s_Total a n cap L _ (HS.out.later (by repeat (first | (with_reducible exact Later.refl _) | (with_reducible exact Hid.out (by assumption)) | (with_reducible refine Later.alloc ?_ _) | (with_reducible refine Later.setCell ?_ (by simp; omega) _) | (with_reducible refine Later.setCell ?_ (by simp) _) | (with_reducible refine Later.drewN ?_ _) | (with_reducible refine Later.drew ?_) | (with_reducible refine Later.trans ?_ (Hid.out (by assumption)))))) HO.out h24).mono ?_; rintro e w2 ⟨rfl, hb⟩; have H2 := Lib.hid hb; clear hb)
            | (go_at_call 108; refine (s_In _ _ _ _).mono ?_; rintro e w' ⟨rfl, rfl⟩))
          go_ret
          exact ⟨ret_i64 (by rw [HE.out]), (by repeat (first | (with_reducible exact Later.refl _) | (with_reducible exact Hid.out (by assumption)) | (with_reducible refine Later.alloc ?_ _) | (with_reducible refine Later.setCell ?_ (by simp; omega) _) | (with_reducible refine Later.setCell ?_ (by simp) _) | (with_reducible refine Later.drewN ?_ _) | (with_reducible refine Later.drew ?_) | (with_reducible refine Later.trans ?_ (Hid.out (by assumption)))))⟩
        · have HE := NO (by omega)
          have d : (decide (lo ≤ q) && decide (q ≤ totL L)) = false := by simpa using hq
          clear NO hq
          go_enter Try.func72, Try.ntmps72
          go_wp2_with (first
            | (go_at_call 84; refine (s_IsLayout a n cap L _ (HS.out.later (by repeat (first | (with_reducible exact Later.refl _) | (with_reducible exact Hid.out (by assumption)) | (with_reducible refine Later.alloc ?_ _) | (with_reducible refine Later.setCell ?_ (by simp; omega) _) | (with_reducible refine Later.setCell ?_ (by simp) _) | (with_reducible refine Later.drewN ?_ _) | (with_reducible refine Later.drew ?_) | (with_reducible refine Later.trans ?_ (Hid.out (by assumption))))))).mono ?_; rintro e w1 ⟨rfl, hb⟩; obtain ⟨H, hcc, hff, hzz⟩ := later_facts hb; clear hb; (try simp at hzz); (try simp only [World.heap_drewN, World.cell?_drewN, World.frozen?_drewN] at hcc hff))
            | (go_at_call 73; refine (s_Total a n cap L _ (HS.out.later (by repeat (first | (with_reducible exact Later.refl _) | (with_reducible exact Hid.out (by assumption)) | (with_reducible refine Later.alloc ?_ _) | (with_reducible refine Later.setCell ?_ (by simp; omega) _) | (with_reducible refine Later.setCell ?_ (by simp) _) | (with_reducible refine Later.drewN ?_ _) | (with_reducible refine Later.drew ?_) | (with_reducible refine Later.trans ?_ (Hid.out (by assumption)))))) HO.out h24).mono ?_; rintro e w2 ⟨rfl, hb⟩; have H2 := Lib.hid hb; clear hb)
            | (go_at_call 108; refine (s_In _ _ _ _).mono ?_; rintro e w' ⟨rfl, rfl⟩))
          go_ret
          exact ⟨ret_i64 (by rw [HE.out]), (by repeat (first | (with_reducible exact Later.refl _) | (with_reducible exact Hid.out (by assumption)) | (with_reducible refine Later.alloc ?_ _) | (with_reducible refine Later.setCell ?_ (by simp; omega) _) | (with_reducible refine Later.setCell ?_ (by simp) _) | (with_reducible refine Later.drewN ?_ _) | (with_reducible refine Later.drew ?_) | (with_reducible refine Later.trans ?_ (Hid.out (by assumption)))))⟩
    · have HE := NO (by omega)
      have d : (decide (0 ≤ p) && decide (p ≤ totL L - 1)) = false := by simpa using hin
      clear NO hin
      go_enter Try.func72, Try.ntmps72
      go_wp2_with (first
        | (go_at_call 84; refine (s_IsLayout a n cap L _ (HS.out.later (by repeat (first | (with_reducible exact Later.refl _) | (with_reducible exact Hid.out (by assumption)) | (with_reducible refine Later.alloc ?_ _) | (with_reducible refine Later.setCell ?_ (by simp; omega) _) | (with_reducible refine Later.setCell ?_ (by simp) _) | (with_reducible refine Later.drewN ?_ _) | (with_reducible refine Later.drew ?_) | (with_reducible refine Later.trans ?_ (Hid.out (by assumption))))))).mono ?_; rintro e w1 ⟨rfl, hb⟩; obtain ⟨H, hcc, hff, hzz⟩ := later_facts hb; clear hb; (try simp at hzz); (try simp only [World.heap_drewN, World.cell?_drewN, World.frozen?_drewN] at hcc hff))
        | (go_at_call 73; refine (s_Total a n cap L _ (HS.out.later (by repeat (first | (with_reducible exact Later.refl _) | (with_reducible exact Hid.out (by assumption)) | (with_reducible refine Later.alloc ?_ _) | (with_reducible refine Later.setCell ?_ (by simp; omega) _) | (with_reducible refine Later.setCell ?_ (by simp) _) | (with_reducible refine Later.drewN ?_ _) | (with_reducible refine Later.drew ?_) | (with_reducible refine Later.trans ?_ (Hid.out (by assumption)))))) HO.out h24).mono ?_; rintro e w2 ⟨rfl, hb⟩; have H2 := Lib.hid hb; clear hb)
        | (go_at_call 108; refine (s_In _ _ _ _).mono ?_; rintro e w' ⟨rfl, rfl⟩))
      go_ret
      exact ⟨ret_i64 (by rw [HE.out]), (by repeat (first | (with_reducible exact Later.refl _) | (with_reducible exact Hid.out (by assumption)) | (with_reducible refine Later.alloc ?_ _) | (with_reducible refine Later.setCell ?_ (by simp; omega) _) | (with_reducible refine Later.setCell ?_ (by simp) _) | (with_reducible refine Later.drewN ?_ _) | (with_reducible refine Later.drew ?_) | (with_reducible refine Later.trans ?_ (Hid.out (by assumption)))))⟩
theorem cd_tr (L : List Sg) (p n : Int) : cdE L p n 1 40000 = trE L p n := by
  unfold cdE trE
  rw [trsB_one]
  by_cases hv : layB L = true
  · rw [if_pos hv, if_pos hv]
    by_cases h : (0 ≤ p ∧ p < totL L) ∧ 1 ≤ n ∧ n ≤ 40000 ∧ n ≤ totL L
    · rw [if_pos h, if_pos (by rw [Bool.and_eq_true, isN_iff, isP_iff]; omega)]
    · rw [if_neg h, if_neg (by rw [Bool.and_eq_true, isN_iff, isP_iff]; omega)]
  · rw [if_neg hv, if_neg hv]
theorem cd_mv (L : List Sg) (p n : Int) : cdE L p n 0 1000000000000 = mvE L p n := by
  unfold cdE mvE
  by_cases hv : layB L = true
  · have := tot_bd hv
    rw [if_pos hv, if_pos hv]
    by_cases h : (0 ≤ p ∧ p < totL L) ∧ 0 ≤ n ∧ n ≤ 1000000000000 ∧ n ≤ totL L
    · rw [if_pos h, if_pos (by rw [mvB_iff]; omega)]
    · rw [if_neg h, if_neg (by rw [mvB_iff]; omega)]
  · rw [if_neg hv, if_neg hv]
theorem s_l05Train (a : Option Addr) (n cap : Nat) (L : List Sg) (p q : Int) (w : World) (hs : Sgs w a n L) :
    Calls Try.prog 77 #[.agg #[.slice a n cap], .int .i64 p, .int .i64 q] w fun e w' => e = .returned (.int .i64 (trE L p q)) ∧ Later w w' := by
  have HS := Lib.hid hs
  have HC := Lib.hid (cd_tr L p q)
  clear hs
  go_enter Try.func77, Try.ntmps77
  go_wp2_with (go_at_call 72; refine (s_l05Code a n cap L p q 1 40000 _ (HS.out.later (by repeat (first | (with_reducible exact Later.refl _) | (with_reducible exact Hid.out (by assumption)) | (with_reducible refine Later.alloc ?_ _) | (with_reducible refine Later.setCell ?_ (by simp; omega) _) | (with_reducible refine Later.setCell ?_ (by simp) _) | (with_reducible refine Later.drewN ?_ _) | (with_reducible refine Later.drew ?_) | (with_reducible refine Later.trans ?_ (Hid.out (by assumption))))))).mono ?_; rw [HC.out]; rintro e w1 ⟨rfl, hb⟩; have H1 := Lib.hid hb; clear hb)
  go_ret
  exact ⟨rfl, (by repeat (first | (with_reducible exact Later.refl _) | (with_reducible exact Hid.out (by assumption)) | (with_reducible refine Later.alloc ?_ _) | (with_reducible refine Later.setCell ?_ (by simp; omega) _) | (with_reducible refine Later.setCell ?_ (by simp) _) | (with_reducible refine Later.drewN ?_ _) | (with_reducible refine Later.drew ?_) | (with_reducible refine Later.trans ?_ (Hid.out (by assumption)))))⟩
theorem s_RearOf (a : Option Addr) (n cap : Nat) (L : List Sg) (p q : Int) (w : World) (hs : Sgs w a n L) :
    Calls Try.prog 23 #[.agg #[.slice a n cap], .int .i64 p, .int .i64 q] w fun e w' => e = .returned (.tuple #[.int .i64 (rearV L p q), .int .i64 (trE L p q)]) ∧ Later w w' := by
  have HS := Lib.hid hs
  have HL := Lib.hid hs.1
  clear hs
  by_cases he : trE L p q = 0
  · obtain ⟨hv, hn, hp⟩ := trE_ok he
    have HT : Hid (rearV L p q = (p - q + 1) % totL L) := Lib.hid (by unfold rearV; rw [if_pos he]; rfl)
    have HE := Lib.hid he
    have HO := Lib.hid ((layB_iff L).1 hv).2.2.1
    have h24 := ((layB_iff L).1 hv).2.1
    rw [HL.out] at h24
    obtain ⟨t1, t2⟩ := tot_bd hv
    rw [isN_iff] at hn
    rw [isP_iff] at hp
    obtain ⟨q1, q2, q3⟩ := hn
    obtain ⟨p1, p2⟩ := hp
    clear he hv
    go_enter Try.func23, Try.ntmps23
    go_wp2_with (first
      | (go_at_call 77; refine (s_l05Train a n cap L p q _ (HS.out.later (by repeat (first | (with_reducible exact Later.refl _) | (with_reducible exact Hid.out (by assumption)) | (with_reducible refine Later.alloc ?_ _) | (with_reducible refine Later.setCell ?_ (by simp; omega) _) | (with_reducible refine Later.setCell ?_ (by simp) _) | (with_reducible refine Later.drewN ?_ _) | (with_reducible refine Later.drew ?_) | (with_reducible refine Later.trans ?_ (Hid.out (by assumption))))))).mono ?_; rw [HE.out]; rintro e w1 ⟨rfl, hb⟩; obtain ⟨H, hcc, hff, hzz⟩ := later_facts hb; clear hb; (try simp at hzz))
      | (go_at_call 73; refine (s_Total a n cap L _ (HS.out.later (by repeat (first | (with_reducible exact Later.refl _) | (with_reducible exact Hid.out (by assumption)) | (with_reducible refine Later.alloc ?_ _) | (with_reducible refine Later.setCell ?_ (by simp; omega) _) | (with_reducible refine Later.setCell ?_ (by simp) _) | (with_reducible refine Later.drewN ?_ _) | (with_reducible refine Later.drew ?_) | (with_reducible refine Later.trans ?_ (Hid.out (by assumption)))))) HO.out h24).mono ?_; rintro e w2 ⟨rfl, hb⟩; have H2 := Lib.hid hb; clear hb)
      | (go_at_call 78; refine (s_l05Mod (p - q + 1) (totL L) _ (by omega) (by omega) (by omega) (by omega)).mono ?_; rintro e w' ⟨rfl, rfl⟩))
    go_ret2
    exact ⟨ret_2i (by rw [HT.out]) (by rw [HE.out]), (by repeat (first | (with_reducible exact Later.refl _) | (with_reducible exact Hid.out (by assumption)) | (with_reducible refine Later.alloc ?_ _) | (with_reducible refine Later.setCell ?_ (by simp; omega) _) | (with_reducible refine Later.setCell ?_ (by simp) _) | (with_reducible refine Later.drewN ?_ _) | (with_reducible refine Later.drew ?_) | (with_reducible refine Later.trans ?_ (Hid.out (by assumption)))))⟩
  · have HT : Hid (rearV L p q = 0) := Lib.hid (by unfold rearV; rw [if_neg he])
    have he0 : (trE L p q != 0) = true := by simpa using he
    clear he
    go_enter Try.func23, Try.ntmps23
    go_wp2_with (go_at_call 77; refine (s_l05Train a n cap L p q _ (HS.out.later (by repeat (first | (with_reducible exact Later.refl _) | (with_reducible exact Hid.out (by assumption)) | (with_reducible refine Later.alloc ?_ _) | (with_reducible refine Later.setCell ?_ (by simp; omega) _) | (with_reducible refine Later.setCell ?_ (by simp) _) | (with_reducible refine Later.drewN ?_ _) | (with_reducible refine Later.drew ?_) | (with_reducible refine Later.trans ?_ (Hid.out (by assumption))))))).mono ?_; rintro e w1 ⟨rfl, hb⟩; have H1 := Lib.hid hb; clear hb)
    go_ret2
    exact ⟨ret_2i (by rw [HT.out]) rfl, (by repeat (first | (with_reducible exact Later.refl _) | (with_reducible exact Hid.out (by assumption)) | (with_reducible refine Later.alloc ?_ _) | (with_reducible refine Later.setCell ?_ (by simp; omega) _) | (with_reducible refine Later.setCell ?_ (by simp) _) | (with_reducible refine Later.drewN ?_ _) | (with_reducible refine Later.drew ?_) | (with_reducible refine Later.trans ?_ (Hid.out (by assumption)))))⟩
theorem s_MoveFront (a : Option Addr) (n cap : Nat) (L : List Sg) (p q : Int) (w : World) (hs : Sgs w a n L) :
    Calls Try.prog 20 #[.agg #[.slice a n cap], .int .i64 p, .int .i64 q] w fun e w' => e = .returned (.tuple #[.int .i64 (movV L p q), .int .i64 (mvE L p q)]) ∧ Later w w' := by
  have HS := Lib.hid hs
  have HL := Lib.hid hs.1
  have HC := Lib.hid (cd_mv L p q)
  clear hs
  by_cases he : mvE L p q = 0
  · obtain ⟨hv, hm⟩ := mvE_ok he
    have HE := Lib.hid he
    have HO := Lib.hid ((layB_iff L).1 hv).2.2.1
    have h24 := ((layB_iff L).1 hv).2.1
    rw [HL.out] at h24
    obtain ⟨t1, t2⟩ := tot_bd hv
    rw [mvB_iff] at hm
    obtain ⟨⟨p1, p2⟩, q1, q2⟩ := hm
    have HT : Hid (movV L p q = (p + q) % totL L ∧ (p + q).tmod (totL L) = (p + q) % totL L) := Lib.hid ⟨by unfold movV; rw [if_pos he], Int.tmod_eq_emod_of_nonneg (by omega)⟩
    have f := tmod_facts (p + q) (totL L) (by omega)
    have f0 := f.2.1 (by omega)
    have f1 := (f.2.2.2.1 (by omega)).1
    clear he hv f
    go_enter Try.func20, Try.ntmps20
    go_wp2_with (first
      | (go_at_call 72; refine (s_l05Code a n cap L p q 0 1000000000000 _ (HS.out.later (by repeat (first | (with_reducible exact Later.refl _) | (with_reducible exact Hid.out (by assumption)) | (with_reducible refine Later.alloc ?_ _) | (with_reducible refine Later.setCell ?_ (by simp; omega) _) | (with_reducible refine Later.setCell ?_ (by simp) _) | (with_reducible refine Later.drewN ?_ _) | (with_reducible refine Later.drew ?_) | (with_reducible refine Later.trans ?_ (Hid.out (by assumption))))))).mono ?_; rw [HC.out, HE.out]; rintro e w1 ⟨rfl, hb⟩; obtain ⟨H, hcc, hff, hzz⟩ := later_facts hb; clear hb; (try simp at hzz))
      | (go_at_call 73; refine (s_Total a n cap L _ (HS.out.later (by repeat (first | (with_reducible exact Later.refl _) | (with_reducible exact Hid.out (by assumption)) | (with_reducible refine Later.alloc ?_ _) | (with_reducible refine Later.setCell ?_ (by simp; omega) _) | (with_reducible refine Later.setCell ?_ (by simp) _) | (with_reducible refine Later.drewN ?_ _) | (with_reducible refine Later.drew ?_) | (with_reducible refine Later.trans ?_ (Hid.out (by assumption)))))) HO.out h24).mono ?_; rintro e w2 ⟨rfl, hb⟩; have H2 := Lib.hid hb; clear hb))
    go_ret2
    exact ⟨ret_2i (by rw [HT.out.1]) (by rw [HE.out]), (by repeat (first | (with_reducible exact Later.refl _) | (with_reducible exact Hid.out (by assumption)) | (with_reducible refine Later.alloc ?_ _) | (with_reducible refine Later.setCell ?_ (by simp; omega) _) | (with_reducible refine Later.setCell ?_ (by simp) _) | (with_reducible refine Later.drewN ?_ _) | (with_reducible refine Later.drew ?_) | (with_reducible refine Later.trans ?_ (Hid.out (by assumption)))))⟩
  · have HT : Hid (movV L p q = 0) := Lib.hid (by unfold movV; rw [if_neg he])
    have he0 : (mvE L p q != 0) = true := by simpa using he
    clear he
    go_enter Try.func20, Try.ntmps20
    go_wp2_with (go_at_call 72; refine (s_l05Code a n cap L p q 0 1000000000000 _ (HS.out.later (by repeat (first | (with_reducible exact Later.refl _) | (with_reducible exact Hid.out (by assumption)) | (with_reducible refine Later.alloc ?_ _) | (with_reducible refine Later.setCell ?_ (by simp; omega) _) | (with_reducible refine Later.setCell ?_ (by simp) _) | (with_reducible refine Later.drewN ?_ _) | (with_reducible refine Later.drew ?_) | (with_reducible refine Later.trans ?_ (Hid.out (by assumption))))))).mono ?_; rw [HC.out]; rintro e w1 ⟨rfl, hb⟩; have H1 := Lib.hid hb; clear hb)
    go_ret2
    exact ⟨ret_2i (by rw [HT.out]) rfl, (by repeat (first | (with_reducible exact Later.refl _) | (with_reducible exact Hid.out (by assumption)) | (with_reducible refine Later.alloc ?_ _) | (with_reducible refine Later.setCell ?_ (by simp; omega) _) | (with_reducible refine Later.setCell ?_ (by simp) _) | (with_reducible refine Later.drewN ?_ _) | (with_reducible refine Later.drew ?_) | (with_reducible refine Later.trans ?_ (Hid.out (by assumption)))))⟩
theorem s_l05Apart (T x y q : Int) (w : World) (hT : 0 < T) (hT2 : T ≤ 4800000) (hx : 0 ≤ x) (hx2 : x < T) (hy : 0 ≤ y) (hy2 : y < T) :
    Calls Try.prog 82 #[.int .i64 T, .int .i64 x, .int .i64 y, .int .i64 q] w fun e w' => e = .returned (.bool (apB T x y q)) ∧ w = w' := by
  obtain ⟨r1, r2⟩ : 0 ≤ ahead T x y ∧ ahead T x y < T := mod_rng _ T hT
  have HA : Hid (apB T x y q = (decide (q ≤ ahead T x y) && decide (q ≤ T - ahead T x y))) := Lib.hid rfl
  have HR : Hid ((y - x) % T = ahead T x y) := Lib.hid rfl
  generalize hr : ahead T x y = r at r1 r2 HA HR
  clear hr
  by_cases h1 : q ≤ r
  · by_cases h2 : q ≤ T - r
    · go_enter Try.func82, Try.ntmps82
      go_wp2_with (go_at_call 78; refine (s_l05Mod (y - x) T _ hT (by omega) (by omega) (by omega)).mono ?_; rw [HR.out]; rintro e w' ⟨rfl, rfl⟩)
      go_ret
      exact ⟨ret_b (by rw [HA.out]; simp [h1, h2]), rfl⟩
    · go_enter Try.func82, Try.ntmps82
      go_wp2_with (go_at_call 78; refine (s_l05Mod (y - x) T _ hT (by omega) (by omega) (by omega)).mono ?_; rw [HR.out]; rintro e w' ⟨rfl, rfl⟩)
      go_ret
      exact ⟨ret_b (by rw [HA.out]; simp [h1, h2]), rfl⟩
  · go_enter Try.func82, Try.ntmps82
    go_wp2_with (go_at_call 78; refine (s_l05Mod (y - x) T _ hT (by omega) (by omega) (by omega)).mono ?_; rw [HR.out]; rintro e w' ⟨rfl, rfl⟩)
    go_ret
    exact ⟨ret_b (by rw [HA.out]; simp; omega), rfl⟩
theorem s_l05Covers (T p n x : Int) (w : World) (hT : 0 < T) (hT2 : T ≤ 4800000) (hp : 0 ≤ p) (hp2 : p < T) (hx : 0 ≤ x) (hx2 : x < T) :
    Calls Try.prog 103 #[.int .i64 T, .int .i64 p, .int .i64 n, .int .i64 x] w fun e w' => e = .returned (.bool (decide ((p - x) % T < n))) ∧ w = w' := by
  go_enter Try.func103, Try.ntmps103
  go_wp2_with (go_at_call 78; refine (s_l05Mod (p - x) T _ hT (by omega) (by omega) (by omega)).mono ?_; rintro e w' ⟨rfl, rfl⟩)
  go_ret
  exact ⟨ret_b (by first | rfl | (simp; done)), rfl⟩
end Go.Proofs.Ytehinlecppbjeaa
namespace Go.Proofs.Ytehinlecppbjeaa
open Go.RowKit
set_option maxHeartbeats 4000000
set_option linter.unusedVariables false
set_option linter.unusedSimpArgs false
theorem Src.kept3 {w w' : World} {B N : Nat} {a : Option Addr} {len cap : Nat} {row : Option Nat} (h : Src w B a len cap) (hab : 0 < len → ∀ x, a = some x → x.block < N) (hBN : B < N) (hg : w.grownBy w' row) (hr : ∀ k, row = some k → N ≤ k) : Src w' B a len cap := by
  have hlt := h.lt
  obtain ⟨⟨p, s, h1, h2, h3, hb⟩, hc⟩ := h
  refine ⟨⟨p, s, h1, h2, h3, by rw [← hb]; exact hg.block B hlt (fun e => by have := hr B e.symm; omega)⟩, hc.1, fun k hk => ?_⟩
  obtain ⟨b, off, x, rfl, hne, hx, x0, x1⟩ := hc.2 k hk
  exact ⟨b, off, x, rfl, hne, hg.cell hx (fun e => by have := hr b e.symm; have := hab (by omega) ⟨b, off, none⟩ rfl; simp at this; omega), x0, x1⟩
/-- a world that grew beside a block of the call's own -/
theorem St.own {l : List (Nat × Nat × Value)} {B : Nat} {a : Option Addr} {len cap : Nat} {w0 W W1 : World} {row : Option Nat} (h : St l B a len cap w0 W) (hg : W.grownBy W1 row) (hr : ∀ k, row = some k → w0.heap.size ≤ k ∧ ∀ x ∈ l, x.1 ≠ k) : St l B a len cap w0 W1 := by
  have hB := h.lt
  refine ⟨fun x hx => ?_, h.2.1, h.src.kept3 (N := w0.heap.size) h.2.1.low hB hg (fun k e => (hr k e).1), ⟨hg.os.trans h.grown.os, hg.tape.trans h.grown.tape, hg.output.trans h.grown.output, Nat.le_trans h.grown.size hg.size, fun i hi hne => (hg.block i (Nat.lt_of_lt_of_le hi h.grown.size) (fun e => by have := (hr i e.symm).1; omega)).trans (h.grown.block i hi hne)⟩⟩
  obtain ⟨h1, h2, h3, h4⟩ := h.1 x hx
  have hne : some x.1 ≠ row := fun e => (hr x.1 e.symm).2 x hx rfl
  exact ⟨h1, Nat.lt_of_lt_of_le h2 hg.size, hg.cell h3 (by simpa using hne), by rw [World.frozen?_of_block (w := W) (hg.block x.1 h2 (by simpa using hne))]; exact h4⟩
theorem wr_rng (x : Int) : -9223372036854775808 ≤ IntKind.i64.wrap x ∧ IntKind.i64.wrap x ≤ 9223372036854775807 := by
  simp [IntKind.wrap, IntKind.signed, IntKind.bits, wrap64]
  omega
/-- what hands back a drawn list leaves -/
def DrawnOL (w : World) (B : Nat) (a : Option Addr) (len cap : Nat) (e : Ending) (w' : World) : Prop :=
  ∃ v l, e = .returned v ∧ Own w' w.heap.size v l ∧ l.length ≤ 1000 ∧ Src w' B a len cap ∧ w.grownBy w' (some B)
set_option maxRecDepth 100000 in
theorem s_DrawSensors5 (B : Nat) (a : Option Addr) (len cap : Nat) (a' : Option Addr) (n cap' : Nat) (L : List Sg) (w : World) (hs : Src w B a len cap) (hl : Sgs w a' n L) (h26 : n ≤ 26) (hsm : ∀ x ∈ L, SmW x) :
    Calls Try.prog 96 #[.pointer (some ⟨B, 0, none⟩), .agg #[.slice a' n cap']] w (DrawnOL w B a len cap) := by
  have HS := Lib.hid hs
  have HL := Lib.hid hl
  have SM := Lib.hid hsm
  obtain ⟨t1, t2⟩ := tot_sm hl.1 h26 hsm
  have hBlt := hs.lt
  clear hs hl hsm
  have key : ∀ m : Int, (totL L ≤ 1 ∧ m = 1) ∨ (1 < totL L ∧ m = totL L) → Calls Try.prog 96 #[.pointer (some ⟨B, 0, none⟩), .agg #[.slice a' n cap']] w (DrawnOL w B a len cap) := by
    intro m hm
    go_enter Try.func96, Try.ntmps96
    go_wp2_with fail
    have T0 := Lib.hid ((St.begin HS.out).alloc (.cells #[.slice a' n cap'] 26))
    refine (s_Total_sm a' n cap' L _ (HL.out.later ((Later.refl _).alloc _)) h26 SM.out).mono ?_
    rintro e w1 ⟨rfl, hb⟩
    have T1 := Lib.hid (T0.out.later hb)
    clear hb T0
    obtain ⟨t, ht, hmt⟩ : ∃ t, t = totL L ∧ ((t ≤ 1 ∧ m = 1) ∨ (1 < t ∧ m = t)) := ⟨_, rfl, hm⟩
    rw [← ht] at t1 t2 ⊢
    clear ht hm
    rcases hmt with ⟨h1, hm1⟩ | ⟨h1, hm1⟩
    · clear hm1
      go_wp2_with fail
      refine (s_Next B a len cap _ _ (T1.out.alloc _).src (by omega) (by omega)).mono ?_
      rintro e w2 ⟨x, rfl, x0, x1, x2, src, gr⟩
      have T2 := Lib.hid ((T1.out.alloc (.cells #[] 2)).call src gr)
      have hx := x1 (by omega)
      have O2 : Hid (Own w2 w.heap.size (.slice (some ⟨w1.heap.size, 0, none⟩) 0 0) []) := Lib.hid ((own_new w1 w.heap.size T1.out.le).kept gr (by intro k hk; cases hk; omega))
      clear gr src x1 x2
      go_wp2_with fail
      go_loopw [6, 7] (fun v at' wr => ∃ (l : List Int) (x : Int), at' = .int .i64 x ∧ 0 ≤ x ∧ x ≤ 300000000 ∧ l.length ≤ 12 ∧ Own wr w.heap.size v l ∧ St [] B a len cap w wr) (fun v _ _ => 12 - (match v with | .slice _ n _ => n | _ => 0))
      case atStart => exact ⟨[], x, rfl, x0, by omega, by simp, O2.out, T2.out⟩
      case round =>
        obtain ⟨l, x, rfl, x0, hx, hlen, ho, ht⟩ := hrel
        have T3 := Lib.hid ht
        have O3 := Lib.hid ho
        have hz3 := ht.le
        obtain ⟨sa, sc, rfl, _, _⟩ := ho.sl
        clear ho ht
        by_cases hgo : x < 1 ∧ l.length < 12
        · obtain ⟨g1, g2⟩ := hgo
          go_wp2_with (at_builtin; go_must (refine app1 rfl _ _ rfl w.heap.size _ _ _ _ _ O3.out rfl rfl ⟨by omega, by omega⟩ (by omega) hz3 ?_; intro v' w5 ho hg; have O5 := Lib.hid ho; have T5 := Lib.hid (T3.out.own hg (fun k e => ⟨(O3.out.lt k e).1, fun x hx => by simp at hx⟩)); clear ho hg))
          refine (s_Next B a len cap 9000 _ T5.out.src (by omega) (by omega)).mono ?_
          rintro e w6 ⟨y, rfl, y0, y1, y2, src, gr⟩
          have T6 := Lib.hid (T5.out.call src gr)
          have hy := y1 (by omega)
          have O6 := Lib.hid (O5.out.kept gr (by intro k hk; cases hk; omega))
          obtain ⟨sa', sc', rfl, _, _⟩ := O5.out.sl
          clear gr src y1 y2
          go_wp2_with fail
          go_roundw
          case rel => exact ⟨l ++ [x], x + 1 + y, congrArg (Value.int .i64) (by omega), by omega, by omega, by simp; omega, (by have h := O6.out; rw [List.length_append] at h; exact h), T6.out⟩
          case measure => simp; omega
        · have hst : ¬ (x < 1) ∨ (x < 1 ∧ ¬ (l.length < 12)) := by omega
          clear hgo
          rcases hst with hst | ⟨hst, hst2⟩
          all_goals
            go_wp2_with fail
            refine (s_Next B a len cap 30 _ T3.out.src (by omega) (by omega)).mono ?_
            rintro e w4 ⟨c, rfl, c0, c1, c2, src, gr⟩
            have T4 := Lib.hid (T3.out.call src gr)
            have O4 := Lib.hid (O3.out.kept gr (by intro k hk; cases hk; omega))
            have hz4 := T4.out.le
            clear gr src c1 c2
            by_cases k0 : c = 0
            · subst k0
              go_wp2_with fail
              have hl3 := sl_new w4 [0, 1, -1] 2 (by simp) (by intro x hx; simp at hx; unfold InR; omega)
              refine (s_Pick B a len cap ⟨w4.heap.size, 0, none⟩ 3 3 _ _ (T4.out.src.alloc _) hl3 (by have := T4.out.src.lt; show w4.heap.size ≠ B; omega) (by omega)).mono ?_
              rintro e w5 ⟨u, rfl, hu, src, gr⟩
              have T5 := Lib.hid ((T4.out.alloc _).call src gr)
              have hu2 : -300000000 ≤ u ∧ u ≤ 300000000 := by simp at hu; omega
              have O5 := Lib.hid ((O4.out.alloc _).kept gr (by intro k hk; cases hk; omega))
              have hz5 := T5.out.le
              clear gr src hu hl3
              go_wp2_with (at_builtin; go_must (refine app1 rfl _ _ rfl w.heap.size _ _ _ _ _ O5.out rfl rfl ⟨by omega, by omega⟩ (by omega) hz5 ?_; intro v' w6 ho hg; have O6 := Lib.hid ho; have T6 := Lib.hid (T5.out.own hg (fun k e => ⟨(O5.out.lt k e).1, fun x hx => by simp at hx⟩)); clear ho hg))
              go_ret
              exact ⟨_, _, rfl, O6.out, by simp; omega, T6.out.src, T6.out.grown⟩
            have e0 : (c == 0) = false := by simpa using k0
            by_cases k1 : c = 1
            · subst k1
              go_wp2_with fail
              clear O4 e0 k0
              have O5 := Lib.hid (own_new w4 w.heap.size hz4)
              have T5 := Lib.hid (T4.out.alloc (.cells #[] 2))
              go_loopw [6, 8] (fun v i wr => ∃ (l : List Int) (k : Nat), i = .int .i64 k ∧ k ≤ 33 ∧ l.length = k ∧ Own wr w.heap.size v l ∧ St [] B a len cap w wr) (fun _ i _ => 33 - (intOf i).toNat)
              case atStart => exact ⟨[], 0, rfl, by omega, rfl, O5.out, T5.out⟩
              case round =>
                obtain ⟨l, k, rfl, hk, hlen, ho, ht⟩ := hrel
                have T6 := Lib.hid ht
                have O6 := Lib.hid ho
                clear ho ht
                go_wp2_with fail
                refine (s_Next B a len cap 2 _ T6.out.src (by omega) (by omega)).mono ?_
                rintro e w7 ⟨y, rfl, y0, y1, y2, src, gr⟩
                have T7 := Lib.hid (T6.out.call src gr)
                have hy := y1 (by omega)
                have O7 := Lib.hid (O6.out.kept gr (by intro k hk; cases hk; omega))
                have hz7 := T7.out.le
                clear gr src y1 y2
                by_cases hlt : (k : Int) < 32 + y
                · go_wp2_with (at_builtin; go_must (refine app1 rfl _ _ rfl w.heap.size _ _ _ _ _ O7.out rfl rfl ⟨by omega, by omega⟩ (by omega) hz7 ?_; intro v' w8 ho hg; have O8 := Lib.hid ho; have T8 := Lib.hid (T7.out.own hg (fun k e => ⟨(O7.out.lt k e).1, fun x hx => by simp at hx⟩)); clear ho hg))
                  go_roundw
                  case rel => exact ⟨l ++ [(k : Int)], k + 1, by go_num, by omega, by simp; omega, O8.out, T8.out⟩
                  case measure => simp [intOf]; omega
                · go_wp2_with fail
                  go_ret
                  exact ⟨_, _, rfl, O7.out, by omega, T7.out.src, T7.out.grown⟩
            · have e1 : (c == 1) = false := by simpa using k1
              go_wp2_with fail
              go_ret
              exact ⟨_, _, rfl, O4.out, by omega, T4.out.src, T4.out.grown⟩
    · clear hm1
      go_wp2_with fail
      refine (s_Next B a len cap _ _ (T1.out.alloc _).src (by omega) (by omega)).mono ?_
      rintro e w2 ⟨x, rfl, x0, x1, x2, src, gr⟩
      have T2 := Lib.hid ((T1.out.alloc (.cells #[] 2)).call src gr)
      have hx := x1 (by omega)
      have O2 : Hid (Own w2 w.heap.size (.slice (some ⟨w1.heap.size, 0, none⟩) 0 0) []) := Lib.hid ((own_new w1 w.heap.size T1.out.le).kept gr (by intro k hk; cases hk; omega))
      clear gr src x1 x2
      go_wp2_with fail
      go_loopw [6, 7] (fun v at' wr => ∃ (l : List Int) (x : Int), at' = .int .i64 x ∧ 0 ≤ x ∧ x ≤ 300000000 ∧ l.length ≤ 12 ∧ Own wr w.heap.size v l ∧ St [] B a len cap w wr) (fun v _ _ => 12 - (match v with | .slice _ n _ => n | _ => 0))
      case atStart => exact ⟨[], x, rfl, x0, by omega, by simp, O2.out, T2.out⟩
      case round =>
        obtain ⟨l, x, rfl, x0, hx, hlen, ho, ht⟩ := hrel
        have T3 := Lib.hid ht
        have O3 := Lib.hid ho
        have hz3 := ht.le
        obtain ⟨sa, sc, rfl, _, _⟩ := ho.sl
        clear ho ht
        by_cases hgo : x < t ∧ l.length < 12
        · obtain ⟨g1, g2⟩ := hgo
          go_wp2_with (at_builtin; go_must (refine app1 rfl _ _ rfl w.heap.size _ _ _ _ _ O3.out rfl rfl ⟨by omega, by omega⟩ (by omega) hz3 ?_; intro v' w5 ho hg; have O5 := Lib.hid ho; have T5 := Lib.hid (T3.out.own hg (fun k e => ⟨(O3.out.lt k e).1, fun x hx => by simp at hx⟩)); clear ho hg))
          refine (s_Next B a len cap 9000 _ T5.out.src (by omega) (by omega)).mono ?_
          rintro e w6 ⟨y, rfl, y0, y1, y2, src, gr⟩
          have T6 := Lib.hid (T5.out.call src gr)
          have hy := y1 (by omega)
          have O6 := Lib.hid (O5.out.kept gr (by intro k hk; cases hk; omega))
          obtain ⟨sa', sc', rfl, _, _⟩ := O5.out.sl
          clear gr src y1 y2
          go_wp2_with fail
          go_roundw
          case rel => exact ⟨l ++ [x], x + 1 + y, congrArg (Value.int .i64) (by omega), by omega, by omega, by simp; omega, (by have h := O6.out; rw [List.length_append] at h; exact h), T6.out⟩
          case measure => simp; omega
        · have hst : ¬ (x < t) ∨ (x < t ∧ ¬ (l.length < 12)) := by omega
          clear hgo
          rcases hst with hst | ⟨hst, hst2⟩
          all_goals
            go_wp2_with fail
            refine (s_Next B a len cap 30 _ T3.out.src (by omega) (by omega)).mono ?_
            rintro e w4 ⟨c, rfl, c0, c1, c2, src, gr⟩
            have T4 := Lib.hid (T3.out.call src gr)
            have O4 := Lib.hid (O3.out.kept gr (by intro k hk; cases hk; omega))
            have hz4 := T4.out.le
            clear gr src c1 c2
            by_cases k0 : c = 0
            · subst k0
              go_wp2_with fail
              have hl3 := sl_new w4 [0, t, -1] 2 (by simp) (by intro x hx; simp at hx; unfold InR; omega)
              refine (s_Pick B a len cap ⟨w4.heap.size, 0, none⟩ 3 3 _ _ (T4.out.src.alloc _) hl3 (by have := T4.out.src.lt; show w4.heap.size ≠ B; omega) (by omega)).mono ?_
              rintro e w5 ⟨u, rfl, hu, src, gr⟩
              have T5 := Lib.hid ((T4.out.alloc _).call src gr)
              have hu2 : -300000000 ≤ u ∧ u ≤ 300000000 := by simp at hu; omega
              have O5 := Lib.hid ((O4.out.alloc _).kept gr (by intro k hk; cases hk; omega))
              have hz5 := T5.out.le
              clear gr src hu hl3
              go_wp2_with (at_builtin; go_must (refine app1 rfl _ _ rfl w.heap.size _ _ _ _ _ O5.out rfl rfl ⟨by omega, by omega⟩ (by omega) hz5 ?_; intro v' w6 ho hg; have O6 := Lib.hid ho; have T6 := Lib.hid (T5.out.own hg (fun k e => ⟨(O5.out.lt k e).1, fun x hx => by simp at hx⟩)); clear ho hg))
              go_ret
              exact ⟨_, _, rfl, O6.out, by simp; omega, T6.out.src, T6.out.grown⟩
            have e0 : (c == 0) = false := by simpa using k0
            by_cases k1 : c = 1
            · subst k1
              go_wp2_with fail
              clear O4 e0 k0
              have O5 := Lib.hid (own_new w4 w.heap.size hz4)
              have T5 := Lib.hid (T4.out.alloc (.cells #[] 2))
              go_loopw [6, 8] (fun v i wr => ∃ (l : List Int) (k : Nat), i = .int .i64 k ∧ k ≤ 33 ∧ l.length = k ∧ Own wr w.heap.size v l ∧ St [] B a len cap w wr) (fun _ i _ => 33 - (intOf i).toNat)
              case atStart => exact ⟨[], 0, rfl, by omega, rfl, O5.out, T5.out⟩
              case round =>
                obtain ⟨l, k, rfl, hk, hlen, ho, ht⟩ := hrel
                have T6 := Lib.hid ht
                have O6 := Lib.hid ho
                clear ho ht
                go_wp2_with fail
                refine (s_Next B a len cap 2 _ T6.out.src (by omega) (by omega)).mono ?_
                rintro e w7 ⟨y, rfl, y0, y1, y2, src, gr⟩
                have T7 := Lib.hid (T6.out.call src gr)
                have hy := y1 (by omega)
                have O7 := Lib.hid (O6.out.kept gr (by intro k hk; cases hk; omega))
                have hz7 := T7.out.le
                clear gr src y1 y2
                by_cases hlt : (k : Int) < 32 + y
                · go_wp2_with (at_builtin; go_must (refine app1 rfl _ _ rfl w.heap.size _ _ _ _ _ O7.out rfl rfl ⟨by omega, by omega⟩ (by omega) hz7 ?_; intro v' w8 ho hg; have O8 := Lib.hid ho; have T8 := Lib.hid (T7.out.own hg (fun k e => ⟨(O7.out.lt k e).1, fun x hx => by simp at hx⟩)); clear ho hg))
                  go_roundw
                  case rel => exact ⟨l ++ [(k : Int)], k + 1, by go_num, by omega, by simp; omega, O8.out, T8.out⟩
                  case measure => simp [intOf]; omega
                · go_wp2_with fail
                  go_ret
                  exact ⟨_, _, rfl, O7.out, by omega, T7.out.src, T7.out.grown⟩
            · have e1 : (c == 1) = false := by simpa using k1
              go_wp2_with fail
              go_ret
              exact ⟨_, _, rfl, O4.out, by omega, T4.out.src, T4.out.grown⟩
  by_cases hT : totL L ≤ 1
  · exact key 1 (.inl ⟨hT, rfl⟩)
  · exact key (totL L) (.inr ⟨by omega, rfl⟩)
end Go.Proofs.Ytehinlecppbjeaa
namespace Go.Proofs.Ytehinlecppbjeaa
open Go.RowKit
set_option maxHeartbeats 4000000
set_option linter.unusedVariables false
set_option linter.unusedSimpArgs false
set_option maxRecDepth 100000 in
theorem s_l05ModE (n T : Int) (w : World) (hT : 0 < T) (hT2 : T ≤ 4000000000000000000) (hn : -9223372036854775808 ≤ n) (hn2 : n ≤ 9223372036854775807) :
    Calls Try.prog 78 #[.int .i64 n, .int .i64 T] w fun e w' => ∃ r : Int, e = .returned (.int .i64 r) ∧ 0 ≤ r ∧ r < T ∧ w = w' :=
  (s_l05Mod n T w hT hT2 hn hn2).mono fun _ _ ⟨h1, h2⟩ => ⟨n % T, h1, (mod_rng n T hT).1, (mod_rng n T hT).2, h2⟩
set_option maxRecDepth 100000 in
theorem s_DrawFronts5 (B : Nat) (a : Option Addr) (len cap : Nat) (a' : Option Addr) (n cap' : Nat) (L : List Sg) (q : Int) (w : World) (hs : Src w B a len cap) (hl : Sgs w a' n L) (h26 : n ≤ 26) (hsm : ∀ x ∈ L, SmW x) (hq : -300000000 ≤ q) (hq2 : q ≤ 300000000) :
    Calls Try.prog 83 #[.pointer (some ⟨B, 0, none⟩), .agg #[.slice a' n cap'], .int .i64 q] w (DrawnOL w B a len cap) := by
  have HS := Lib.hid hs
  have HL := Lib.hid hl
  have SM := Lib.hid hsm
  obtain ⟨t1, t2⟩ := tot_sm hl.1 h26 hsm
  have hBlt := hs.lt
  clear hs hl hsm
  have key : ∀ m : Int, (totL L ≤ 1 ∧ m = 1) ∨ (1 < totL L ∧ m = totL L) → Calls Try.prog 83 #[.pointer (some ⟨B, 0, none⟩), .agg #[.slice a' n cap'], .int .i64 q] w (DrawnOL w B a len cap) := by
    intro m hm
    go_enter Try.func83, Try.ntmps83
    go_wp2_with fail
    have T0 := Lib.hid ((St.begin HS.out).alloc (.cells #[.slice a' n cap'] 26))
    refine (s_Total_sm a' n cap' L _ (HL.out.later ((Later.refl _).alloc _)) h26 SM.out).mono ?_
    rintro e w1 ⟨rfl, hb⟩
    have T1 := Lib.hid (T0.out.later hb)
    clear hb T0
    obtain ⟨t, ht, hmt⟩ : ∃ t, t = totL L ∧ ((t ≤ 1 ∧ m = 1) ∨ (1 < t ∧ m = t)) := ⟨_, rfl, hm⟩
    rw [← ht] at t1 t2 ⊢
    clear ht hm
    rcases hmt with ⟨h1, hm1⟩ | ⟨h1, hm1⟩
    · clear hm1
      go_wp2_with fail
      have OA : Hid (Own (w1.alloc (.cells #[] 2)) w.heap.size (.slice (some ⟨w1.heap.size, 0, none⟩) 0 0) []) := Lib.hid (own_new w1 w.heap.size T1.out.le)
      have TA := Lib.hid (T1.out.alloc (.cells #[] 2))
      refine (s_Next B a len cap _ _ TA.out.src (by omega) (by omega)).mono ?_
      rintro e w2 ⟨x, rfl, x0, x1, x2, src, gr⟩
      have T2 := Lib.hid (TA.out.call src gr)
      have hx : x ≤ 300000000 := by first | (have := x1 (by omega); omega) | (have := x2 (by omega); omega)
      have O2 := Lib.hid (OA.out.kept gr (by intro k hk; cases hk; omega))
      clear gr src x1 x2
      go_wp2_with fail
      refine (s_Next B a len cap 5 _ T2.out.src (by omega) (by omega)).mono ?_
      rintro e w3 ⟨k0, rfl, k00, k01, k02, src, gr⟩
      have T3 := Lib.hid (T2.out.call src gr)
      have hk0 := k01 (by omega)
      have O3 := Lib.hid (O2.out.kept gr (by intro k hk; cases hk; omega))
      obtain ⟨kn, rfl⟩ := Int.eq_ofNat_of_zero_le k00
      clear gr src k01 k02 k00
      go_wp2_with fail
      go_loopw [8, 9, 10] (fun v at' k' wr => ∃ (l : List Int) (x : Int) (k : Nat), k' = .int .i64 k ∧ at' = .int .i64 x ∧ 0 ≤ x ∧ x ≤ 300000000 ∧ l.length + k ≤ 4 ∧ Own wr w.heap.size v l ∧ St [] B a len cap w wr) (fun _ _ k' _ => (intOf k').toNat)
      case atStart => exact ⟨[], x, kn, rfl, rfl, x0, hx, by simp; omega, O3.out, T3.out⟩
      case round =>
        obtain ⟨l, x, k, rfl, rfl, x0, hx, hlen, ho, ht⟩ := hrel
        have T4 := Lib.hid ht
        have O4 := Lib.hid ho
        have hz4 := ht.le
        clear ho ht
        by_cases hk : 0 < k
        · go_wp2_with (at_builtin; go_must (refine app1 rfl _ _ rfl w.heap.size _ _ _ _ _ O4.out rfl rfl ⟨by omega, by omega⟩ (by omega) hz4 ?_; intro v' w5 ho hg; have O5 := Lib.hid ho; have T5 := Lib.hid (T4.out.own hg (fun k e => ⟨(O4.out.lt k e).1, fun x hx => by simp at hx⟩)); clear ho hg))
          go_wp2_with fail
          all_goals
            refine (s_Next B a len cap _ _ T5.out.src (by omega) (by omega)).mono ?_
            rintro e w6 ⟨y, rfl, y0, y1, y2, src, gr⟩
            have T6 := Lib.hid (T5.out.call src gr)
            have hy : y ≤ 300000000 := by first | (have := y1 (by omega); omega) | (have := y2 (by omega); omega)
            have O6 := Lib.hid (O5.out.kept gr (by intro k hk; cases hk; omega))
            clear gr src y1 y2
            go_wp2_with fail
            refine (s_Next B a len cap 20 _ T6.out.src (by omega) (by omega)).mono ?_
            rintro e w7 ⟨z, rfl, z0, z1, z2, src, gr⟩
            have T7 := Lib.hid (T6.out.call src gr)
            have hz := z1 (by omega)
            have O7 := Lib.hid (O6.out.kept gr (by intro k hk; cases hk; omega))
            have hz19 : 0 ≤ z.tdiv 19 ∧ z.tdiv 19 ≤ 1 := by rw [Int.tdiv_eq_ediv_of_nonneg z0]; omega
            obtain ⟨hza, hzb⟩ := hz19
            have hz19' : 0 ≤ z / 19 ∧ z / 19 ≤ 1 := by omega
            obtain ⟨hzc, hzd⟩ := hz19'
            clear gr src z1 z2
            go_wp2_with fail
            refine (s_l05ModE _ 1 _ (by omega) (by omega) (by omega) (by omega)).mono ?_
            rintro e w' ⟨r, rfl, g0, g1, rfl⟩
            go_wp2_with fail
            go_roundw
            case rel => exact ⟨l ++ [x], _, k - 1, congrArg (Value.int .i64) (by omega), rfl, g0, by omega, by simp; omega, O7.out, T7.out⟩
            case measure => simp [intOf]; omega
        · obtain rfl : k = 0 := by omega
          go_wp2_with fail
          refine (s_Next B a len cap 40 _ T4.out.src (by omega) (by omega)).mono ?_
          rintro e w5 ⟨c, rfl, c0, c1, c2, src, gr⟩
          have T5 := Lib.hid (T4.out.call src gr)
          have O5 := Lib.hid (O4.out.kept gr (by intro k hk; cases hk; omega))
          clear gr src c1 c2 hk
          by_cases k0 : c = 0
          · subst k0
            go_wp2_with fail
            refine (s_Next B a len cap 2 _ T5.out.src (by omega) (by omega)).mono ?_
            rintro e w6 ⟨y, rfl, y0, y1, y2, src, gr⟩
            have T6 := Lib.hid (T5.out.call src gr)
            have hy := y1 (by omega)
            have hz6 := T6.out.le
            clear gr src y1 y2
            obtain ⟨m, rfl⟩ := Int.eq_ofNat_of_zero_le y0
            obtain ⟨i0, hi, hz0, hz1, hz2⟩ := info_parts info_i64
            have HI := Lib.hid hi; clear hi
            have HZ0 := Lib.hid hz0; clear hz0
            have HZ1 := Lib.hid hz1; clear hz1
            have HZ2 := Lib.hid hz2; clear hz2
            go_wp2_with (refine wpList_make_full _ rfl _ _ _ rfl w.heap.size 2 i0 (.int .i64 0) 1 Try.underlying38 HI.out HZ0.out HZ1.out _ _ _ _ (4 + m) rfl rfl (by omega) (by omega) (by rw [HZ2.out]; omega) (by unfold maxLen; omega) hz6 ?_; intro w7 hown hgrow)
            have ho : Own w7 w.heap.size (.slice (some ⟨w6.heap.size, 0, none⟩) (4 + m) (4 + m)) (List.replicate (4 + m) 0) := by
              refine ⟨?_, fun x hx => by rw [List.eq_of_mem_replicate hx]; exact ⟨by omega, by omega⟩⟩
              have := toList_madeCells_one (.int .i64 0) (4 + m)
              simpa [Value.cells, this] using hown
            have T7 := T6.out.own hgrow (fun k e => by cases e)
            go_ret
            exact ⟨_, _, rfl, ho, by simp; omega, T7.src, T7.grown⟩
          have e0 : (c == 0) = false := by simpa using k0
          by_cases k1 : c = 1
          · subst k1
            go_wp2_with fail
            have hl3 := sl_new w5 [-1, 1, 0] 2 (by simp) (by intro x hx; simp at hx; unfold InR; omega)
            refine (s_Pick B a len cap ⟨w5.heap.size, 0, none⟩ 3 3 _ _ (T5.out.src.alloc _) hl3 (by have := T5.out.src.lt; show w5.heap.size ≠ B; omega) (by omega)).mono ?_
            rintro e w6 ⟨u, rfl, hu, src, gr⟩
            have T6 := Lib.hid ((T5.out.alloc _).call src gr)
            have hu2 : -300000000 ≤ u ∧ u ≤ 300000000 := by simp at hu; omega
            have O6 := Lib.hid ((O5.out.alloc _).kept gr (by intro k hk; cases hk; omega))
            have hz6 := T6.out.le
            clear gr src hu hl3
            go_wp2_with (at_builtin; go_must (refine app1 rfl _ _ rfl w.heap.size _ _ _ _ _ O6.out rfl rfl ⟨by omega, by omega⟩ (by omega) hz6 ?_; intro v' w7 ho hg; have O7 := Lib.hid ho; have T7 := Lib.hid (T6.out.own hg (fun k e => ⟨(O6.out.lt k e).1, fun x hx => by simp at hx⟩)); clear ho hg))
            go_ret
            exact ⟨_, _, rfl, O7.out, by simp; omega, T7.out.src, T7.out.grown⟩
          · have e1 : (c == 1) = false := by simpa using k1
            go_wp2_with fail
            go_ret
            exact ⟨_, _, rfl, O5.out, by omega, T5.out.src, T5.out.grown⟩
    · clear hm1
      go_wp2_with fail
      have OA : Hid (Own (w1.alloc (.cells #[] 2)) w.heap.size (.slice (some ⟨w1.heap.size, 0, none⟩) 0 0) []) := Lib.hid (own_new w1 w.heap.size T1.out.le)
      have TA := Lib.hid (T1.out.alloc (.cells #[] 2))
      refine (s_Next B a len cap _ _ TA.out.src (by omega) (by omega)).mono ?_
      rintro e w2 ⟨x, rfl, x0, x1, x2, src, gr⟩
      have T2 := Lib.hid (TA.out.call src gr)
      have hx : x ≤ 300000000 := by first | (have := x1 (by omega); omega) | (have := x2 (by omega); omega)
      have O2 := Lib.hid (OA.out.kept gr (by intro k hk; cases hk; omega))
      clear gr src x1 x2
      go_wp2_with fail
      refine (s_Next B a len cap 5 _ T2.out.src (by omega) (by omega)).mono ?_
      rintro e w3 ⟨k0, rfl, k00, k01, k02, src, gr⟩
      have T3 := Lib.hid (T2.out.call src gr)
      have hk0 := k01 (by omega)
      have O3 := Lib.hid (O2.out.kept gr (by intro k hk; cases hk; omega))
      obtain ⟨kn, rfl⟩ := Int.eq_ofNat_of_zero_le k00
      clear gr src k01 k02 k00
      go_wp2_with fail
      go_loopw [8, 9, 10] (fun v at' k' wr => ∃ (l : List Int) (x : Int) (k : Nat), k' = .int .i64 k ∧ at' = .int .i64 x ∧ 0 ≤ x ∧ x ≤ 300000000 ∧ l.length + k ≤ 4 ∧ Own wr w.heap.size v l ∧ St [] B a len cap w wr) (fun _ _ k' _ => (intOf k').toNat)
      case atStart => exact ⟨[], x, kn, rfl, rfl, x0, hx, by simp; omega, O3.out, T3.out⟩
      case round =>
        obtain ⟨l, x, k, rfl, rfl, x0, hx, hlen, ho, ht⟩ := hrel
        have T4 := Lib.hid ht
        have O4 := Lib.hid ho
        have hz4 := ht.le
        clear ho ht
        by_cases hk : 0 < k
        · go_wp2_with (at_builtin; go_must (refine app1 rfl _ _ rfl w.heap.size _ _ _ _ _ O4.out rfl rfl ⟨by omega, by omega⟩ (by omega) hz4 ?_; intro v' w5 ho hg; have O5 := Lib.hid ho; have T5 := Lib.hid (T4.out.own hg (fun k e => ⟨(O4.out.lt k e).1, fun x hx => by simp at hx⟩)); clear ho hg))
          have hq3 : 0 ≤ t.tdiv 3 ∧ t.tdiv 3 ≤ 100000000 := by rw [Int.tdiv_eq_ediv_of_nonneg (by omega)]; omega
          obtain ⟨q3a, q3b⟩ := hq3
          have hq4 : 0 ≤ t / 3 ∧ t / 3 ≤ 100000000 := by omega
          obtain ⟨q4a, q4b⟩ := hq4
          go_wp2_with fail
          all_goals
            refine (s_Next B a len cap _ _ T5.out.src (by omega) (by omega)).mono ?_
            rintro e w6 ⟨y, rfl, y0, y1, y2, src, gr⟩
            have T6 := Lib.hid (T5.out.call src gr)
            have hy : y ≤ 300000000 := by first | (have := y1 (by omega); omega) | (have := y2 (by omega); omega)
            have O6 := Lib.hid (O5.out.kept gr (by intro k hk; cases hk; omega))
            clear gr src y1 y2
            go_wp2_with fail
            refine (s_Next B a len cap 20 _ T6.out.src (by omega) (by omega)).mono ?_
            rintro e w7 ⟨z, rfl, z0, z1, z2, src, gr⟩
            have T7 := Lib.hid (T6.out.call src gr)
            have hz := z1 (by omega)
            have O7 := Lib.hid (O6.out.kept gr (by intro k hk; cases hk; omega))
            have hz19 : 0 ≤ z.tdiv 19 ∧ z.tdiv 19 ≤ 1 := by rw [Int.tdiv_eq_ediv_of_nonneg z0]; omega
            obtain ⟨hza, hzb⟩ := hz19
            have hz19' : 0 ≤ z / 19 ∧ z / 19 ≤ 1 := by omega
            obtain ⟨hzc, hzd⟩ := hz19'
            clear gr src z1 z2
            go_wp2_with fail
            refine (s_l05ModE _ t _ (by omega) (by omega) (by omega) (by omega)).mono ?_
            rintro e w' ⟨r, rfl, g0, g1, rfl⟩
            go_wp2_with fail
            go_roundw
            case rel => exact ⟨l ++ [x], _, k - 1, congrArg (Value.int .i64) (by omega), rfl, g0, by omega, by simp; omega, O7.out, T7.out⟩
            case measure => simp [intOf]; omega
        · obtain rfl : k = 0 := by omega
          go_wp2_with fail
          refine (s_Next B a len cap 40 _ T4.out.src (by omega) (by omega)).mono ?_
          rintro e w5 ⟨c, rfl, c0, c1, c2, src, gr⟩
          have T5 := Lib.hid (T4.out.call src gr)
          have O5 := Lib.hid (O4.out.kept gr (by intro k hk; cases hk; omega))
          clear gr src c1 c2 hk
          by_cases k0 : c = 0
          · subst k0
            go_wp2_with fail
            refine (s_Next B a len cap 2 _ T5.out.src (by omega) (by omega)).mono ?_
            rintro e w6 ⟨y, rfl, y0, y1, y2, src, gr⟩
            have T6 := Lib.hid (T5.out.call src gr)
            have hy := y1 (by omega)
            have hz6 := T6.out.le
            clear gr src y1 y2
            obtain ⟨m, rfl⟩ := Int.eq_ofNat_of_zero_le y0
            obtain ⟨i0, hi, hz0, hz1, hz2⟩ := info_parts info_i64
            have HI := Lib.hid hi; clear hi
            have HZ0 := Lib.hid hz0; clear hz0
            have HZ1 := Lib.hid hz1; clear hz1
            have HZ2 := Lib.hid hz2; clear hz2
            go_wp2_with (refine wpList_make_full _ rfl _ _ _ rfl w.heap.size 2 i0 (.int .i64 0) 1 Try.underlying38 HI.out HZ0.out HZ1.out _ _ _ _ (4 + m) rfl rfl (by omega) (by omega) (by rw [HZ2.out]; omega) (by unfold maxLen; omega) hz6 ?_; intro w7 hown hgrow)
            have ho : Own w7 w.heap.size (.slice (some ⟨w6.heap.size, 0, none⟩) (4 + m) (4 + m)) (List.replicate (4 + m) 0) := by
              refine ⟨?_, fun x hx => by rw [List.eq_of_mem_replicate hx]; exact ⟨by omega, by omega⟩⟩
              have := toList_madeCells_one (.int .i64 0) (4 + m)
              simpa [Value.cells, this] using hown
            have T7 := T6.out.own hgrow (fun k e => by cases e)
            go_ret
            exact ⟨_, _, rfl, ho, by simp; omega, T7.src, T7.grown⟩
          have e0 : (c == 0) = false := by simpa using k0
          by_cases k1 : c = 1
          · subst k1
            go_wp2_with fail
            have hl3 := sl_new w5 [-1, t, t - 1] 2 (by simp) (by intro x hx; simp at hx; unfold InR; omega)
            refine (s_Pick B a len cap ⟨w5.heap.size, 0, none⟩ 3 3 _ _ (T5.out.src.alloc _) hl3 (by have := T5.out.src.lt; show w5.heap.size ≠ B; omega) (by omega)).mono ?_
            rintro e w6 ⟨u, rfl, hu, src, gr⟩
            have T6 := Lib.hid ((T5.out.alloc _).call src gr)
            have hu2 : -300000000 ≤ u ∧ u ≤ 300000000 := by simp at hu; omega
            have O6 := Lib.hid ((O5.out.alloc _).kept gr (by intro k hk; cases hk; omega))
            have hz6 := T6.out.le
            clear gr src hu hl3
            go_wp2_with (at_builtin; go_must (refine app1 rfl _ _ rfl w.heap.size _ _ _ _ _ O6.out rfl rfl ⟨by omega, by omega⟩ (by omega) hz6 ?_; intro v' w7 ho hg; have O7 := Lib.hid ho; have T7 := Lib.hid (T6.out.own hg (fun k e => ⟨(O6.out.lt k e).1, fun x hx => by simp at hx⟩)); clear ho hg))
            go_ret
            exact ⟨_, _, rfl, O7.out, by simp; omega, T7.out.src, T7.out.grown⟩
          · have e1 : (c == 1) = false := by simpa using k1
            go_wp2_with fail
            go_ret
            exact ⟨_, _, rfl, O5.out, by omega, T5.out.src, T5.out.grown⟩
  by_cases hT : totL L ≤ 1
  · exact key 1 (.inl ⟨hT, rfl⟩)
  · exact key (totL L) (.inr ⟨by omega, rfl⟩)
end Go.Proofs.Ytehinlecppbjeaa
namespace Go.Proofs.Ytehinlecppbjeaa
open Go.RowKit
set_option maxHeartbeats 4000000
set_option linter.unusedVariables false
set_option linter.unusedSimpArgs false
/-- a drawn layout and three numbers -/
def DrawnL3 (w : World) (e : Ending) (w' : World) : Prop :=
  ∃ (a' : Option Addr) (n cap' : Nat) (L : List Sg) (p r q : Int), e = .returned (.tuple #[.agg #[.slice a' n cap'], .int .i64 p, .int .i64 r, .int .i64 q]) ∧ Sgs w' a' n L ∧ n ≤ cap' ∧ InR p ∧ InR r ∧ InR q ∧ Below w.heap.size w w'
/-- a drawn layout, a list, a number -/
def DrawnLF (w : World) (e : Ending) (w' : World) : Prop :=
  ∃ (a' : Option Addr) (n cap' : Nat) (L : List Sg) (A : Option Addr) (m capF : Nat) (F : List Int) (q : Int), e = .returned (.tuple #[.agg #[.slice a' n cap'], .slice A m capF, .int .i64 q]) ∧ Sgs w' a' n L ∧ n ≤ cap' ∧ Sl w' A m F ∧ m ≤ capF ∧ m ≤ 1000 ∧ InR q ∧ Below w.heap.size w w'
theorem Own.rows {w : World} {base : Nat} {v : Value} {l : List Int} (h : Own w base v l) : ∃ A cap, v = .slice A l.length cap ∧ Sl w A l.length l ∧ l.length ≤ cap ∧ ∀ x, A = some x → base ≤ x.block := by
  obtain ⟨A, cap, e, hs, hb⟩ := h.sl
  refine ⟨A, cap, e, hs, ?_, hb⟩
  subst e
  rcases h.1.2 with ⟨e, h0⟩ | ⟨g, cap2, cur, e, _, _, h1, h2, _⟩
  · simp only [Value.slice.injEq] at e; omega
  · simp only [Value.slice.injEq] at e; omega
theorem Sl.far {w : World} {A : Option Addr} {n : Nat} {l : List Int} (h : Sl w A n l) (g j : Nat) (u : Value) (hne : ∀ x, A = some x → x.block ≠ g) : Sl (w.setCell ⟨g, j, none⟩ u) A n l := by
  obtain ⟨h1, h2, h3, h4⟩ := h
  refine ⟨h1, h2, fun k hk => ?_, h4⟩
  obtain ⟨b, off, rfl, hc⟩ := h3 k hk
  exact ⟨b, off, rfl, by rw [World.cell?_setCell_far _ _ _ _ (Ne.symm (hne _ rfl))]; exact hc⟩
set_option maxRecDepth 100000 in
theorem s_DrawGapAhead (a : Option Addr) (len cap : Nat) (w : World) (hs : Bytes w a len) :
    Calls Try.prog 26 #[.slice a len cap] w (DrawnL3 w) := by
  have HS := Lib.hid hs
  clear hs
  go_enter Try.func26, Try.ntmps26
  go_wp2_with fail
  refine (s_From a len cap _ (HS.out.later ((Below.refl _ _).alloc (Nat.le_refl _) _))).mono ?_
  rintro e w1 ⟨rfl, src, lt, bel⟩
  rw [World.size_alloc] at src lt bel ⊢
  have S1 := Lib.hid src
  have BL := Lib.hid bel
  clear src bel
  go_wp2_with fail
  refine (s_Draw (w.heap.size + 1) a len cap _ S1.out).mono ?_
  rintro e w2 ⟨a', n, cap', L, rfl, hl, hcap, h26, hsm, hbl, src, gr⟩
  obtain ⟨d2, b1, rc, rf, hz1⟩ := dl_begin S1.out BL.out hl hbl src gr
  have D2 := Lib.hid d2
  have B1 := Lib.hid b1
  have RC := Lib.hid rc; have RF := Lib.hid rf
  have SM : Hid (∀ x ∈ L, SmW x) := Lib.hid (fun x hx => (hsm x hx).w)
  have hz2 := gr.size
  have hn1 : w2.heap.size ≠ w.heap.size := by omega
  have hn2 : w.heap.size ≠ w2.heap.size := by omega
  have D3 := Lib.hid (D2.out.box (.slice a' n cap') 26)
  clear hl hbl src gr d2 b1 rc rf hsm lt S1 BL D2
  go_wp2_with fail
  refine (s_DrawLength5 (w.heap.size + 1) a len cap a' n cap' L _ D3.out.src D3.out.sg h26 SM.out D3.out.nB).mono ?_
  rintro e w3 ⟨q, rfl, hq, src, gr⟩
  have Hq : Hid (-300000000 ≤ q ∧ q ≤ 300000000) := Lib.hid (by omega)
  have D4 := Lib.hid (D3.out.call src gr); have c4 := D4.out.c1; have rc4 := D4.out.old RC.out (by omega); have rf4 := D4.out.oldF RC.out RF.out (by omega); clear src gr
  clear hq
  go_wp2_with fail
  refine (s_DrawPositionW (w.heap.size + 1) a len cap a' n cap' L _ D4.out.src D4.out.sg h26 SM.out).mono ?_
  rintro e w4 ⟨p, rfl, hp, src, gr⟩
  have Hp := Lib.hid hp
  have D5 := Lib.hid (D4.out.call src gr); have c5 := D5.out.c1; have rc5 := D5.out.old RC.out (by omega); have rf5 := D5.out.oldF RC.out RF.out (by omega); clear src gr
  clear hp c4 rc4 rf4
  go_wp2_with fail
  refine (s_Total_sm a' n cap' L _ D5.out.sg h26 SM.out).mono ?_
  rintro e w5 ⟨rfl, hb⟩
  have D6 := Lib.hid (D5.out.later hb)
  have c6 := D6.out.c1; have rc6 := D6.out.old RC.out (by omega); have rf6 := D6.out.oldF RC.out RF.out (by omega)
  clear hb c5 rc5 rf5
  obtain ⟨t1, t2⟩ := tot_sm D6.out.sg.1 h26 SM.out
  generalize totL L = t at t1 t2 ⊢
  have wr1 := fun x => wr_rng x
  have WR := Lib.hid wr1; clear wr1
  rcases Int.lt_or_le 1 t with h1 | h1
  · go_wp2_with fail
    refine (s_Next (w.heap.size + 1) a len cap 4 _ D6.out.src (by omega) (by omega)).mono ?_
    rintro e w6 ⟨c, rfl, c0, c1, c2, src, gr⟩
    have D7 := Lib.hid (D6.out.call src gr); have c7 := D7.out.c1; have rc7 := D7.out.old RC.out (by omega); have rf7 := D7.out.oldF RC.out RF.out (by omega); clear src gr
    clear c1 c2 c6 rc6 rf6
    by_cases k0 : c = 0
    · subst k0
      go_wp2_with fail
      go_region_held3 (fun w' => w'.cell? ⟨w2.heap.size, 0, none⟩ = some (.slice a' n cap')) (first | (refine DL.c1 (l := []) (g := w.heap.size) (a' := a') (n := n) (L := L) (B := w.heap.size + 1) (a := a) (len := len) (cap := cap) (w0 := w1) ?_; ((repeat (first | (with_reducible exact Hid.out (by assumption)) | (with_reducible refine DL.alloc ?_ _) | (with_reducible refine DL.drewN ?_ _) | (with_reducible refine DL.drew ?_) | (with_reducible refine DL.later ?_ (Hid.out (by assumption))))); done)) | (rw [World.cell?_setCell_other _ _ _ _ (by simp [hn1, hn2])]; refine DL.c1 (l := []) (g := w.heap.size) (a' := a') (n := n) (L := L) (B := w.heap.size + 1) (a := a) (len := len) (cap := cap) (w0 := w1) ?_; ((repeat (first | (with_reducible exact Hid.out (by assumption)) | (with_reducible refine DL.alloc ?_ _) | (with_reducible refine DL.drewN ?_ _) | (with_reducible refine DL.drew ?_) | (with_reducible refine DL.later ?_ (Hid.out (by assumption))))); done)))
        (first
          | (go_at_call 79; refine (s_Next (w.heap.size + 1) a len cap 2 _ (show DL [(w2.heap.size, 0, .slice a' n cap')] w.heap.size a' n L (w.heap.size + 1) a len cap w1 _ from (by repeat (first | (with_reducible exact Hid.out (by assumption)) | (with_reducible refine DL.alloc ?_ _) | (with_reducible refine DL.drewN ?_ _) | (with_reducible refine DL.drew ?_) | (with_reducible refine DL.later ?_ (Hid.out (by assumption)))))).src (by omega) (by omega)).mono ?_; rintro e w8 ⟨v, rfl, v0, v1, v2, src, gr⟩; have D8 := Lib.hid (DL.call (show DL [(w2.heap.size, 0, .slice a' n cap')] w.heap.size a' n L (w.heap.size + 1) a len cap w1 _ from (by repeat (first | (with_reducible exact Hid.out (by assumption)) | (with_reducible refine DL.alloc ?_ _) | (with_reducible refine DL.drewN ?_ _) | (with_reducible refine DL.drew ?_) | (with_reducible refine DL.later ?_ (Hid.out (by assumption)))))) src gr); have rc8 := D8.out.old RC.out (by omega); have rf8 := D8.out.oldF RC.out RF.out (by omega); clear src gr v1 v2)
          | (go_at_call 78; refine (s_l05ModE _ t _ (by omega) (by omega) (WR.out _).1 (WR.out _).2).mono ?_; rintro e w9 ⟨r, rfl, r0, r1, rfl⟩))
      all_goals
        go_wp2_with fail
        refine bodyPost_ret (v := .tuple #[.agg #[.slice a' n cap'], .int .i64 p, .int .i64 r, .int .i64 q]) (by simp [results, Try.results26, go_sem, *]) rfl ⟨a', n, cap', L, p, r, q, rfl, D8.out.set _ _, hcap, Hp.out, ⟨by omega, by omega⟩, ⟨by have := Hq.out; omega, by have := Hq.out; omega⟩, (dl_below D8.out B1.out).setCell (Nat.le_refl _) _⟩
    · have e0 : (c == 0) = false := by simpa using k0
      clear k0
      go_wp2_with fail
      go_region_held3 (fun w' => w'.cell? ⟨w2.heap.size, 0, none⟩ = some (.slice a' n cap')) (first | (refine DL.c1 (l := []) (g := w.heap.size) (a' := a') (n := n) (L := L) (B := w.heap.size + 1) (a := a) (len := len) (cap := cap) (w0 := w1) ?_; ((repeat (first | (with_reducible exact Hid.out (by assumption)) | (with_reducible refine DL.alloc ?_ _) | (with_reducible refine DL.drewN ?_ _) | (with_reducible refine DL.drew ?_) | (with_reducible refine DL.later ?_ (Hid.out (by assumption))))); done)) | (rw [World.cell?_setCell_other _ _ _ _ (by simp [hn1, hn2])]; refine DL.c1 (l := []) (g := w.heap.size) (a' := a') (n := n) (L := L) (B := w.heap.size + 1) (a := a) (len := len) (cap := cap) (w0 := w1) ?_; ((repeat (first | (with_reducible exact Hid.out (by assumption)) | (with_reducible refine DL.alloc ?_ _) | (with_reducible refine DL.drewN ?_ _) | (with_reducible refine DL.drew ?_) | (with_reducible refine DL.later ?_ (Hid.out (by assumption))))); done))) ((go_at_call 68; refine (s_DrawPositionW (w.heap.size + 1) a len cap a' n cap' L _ (show DL [(w2.heap.size, 0, .slice a' n cap')] w.heap.size a' n L (w.heap.size + 1) a len cap w1 _ from (by repeat (first | (with_reducible exact Hid.out (by assumption)) | (with_reducible refine DL.alloc ?_ _) | (with_reducible refine DL.drewN ?_ _) | (with_reducible refine DL.drew ?_) | (with_reducible refine DL.later ?_ (Hid.out (by assumption)))))).src (show DL [(w2.heap.size, 0, .slice a' n cap')] w.heap.size a' n L (w.heap.size + 1) a len cap w1 _ from (by repeat (first | (with_reducible exact Hid.out (by assumption)) | (with_reducible refine DL.alloc ?_ _) | (with_reducible refine DL.drewN ?_ _) | (with_reducible refine DL.drew ?_) | (with_reducible refine DL.later ?_ (Hid.out (by assumption)))))).sg h26 SM.out).mono ?_; rintro e w9 ⟨r, rfl, hr, src, gr⟩; have Hr := Lib.hid hr; have D9 := Lib.hid (DL.call (show DL [(w2.heap.size, 0, .slice a' n cap')] w.heap.size a' n L (w.heap.size + 1) a len cap w1 _ from (by repeat (first | (with_reducible exact Hid.out (by assumption)) | (with_reducible refine DL.alloc ?_ _) | (with_reducible refine DL.drewN ?_ _) | (with_reducible refine DL.drew ?_) | (with_reducible refine DL.later ?_ (Hid.out (by assumption)))))) src gr); have rc9 := D9.out.old RC.out (by omega); have rf9 := D9.out.oldF RC.out RF.out (by omega); clear src gr hr))
      all_goals
        go_wp2_with fail
        refine bodyPost_ret (v := .tuple #[.agg #[.slice a' n cap'], .int .i64 p, .int .i64 r, .int .i64 q]) (by simp [results, Try.results26, go_sem, *]) rfl ⟨a', n, cap', L, p, r, q, rfl, D9.out.set _ _, hcap, Hp.out, Hr.out, ⟨by have := Hq.out; omega, by have := Hq.out; omega⟩, (dl_below D9.out B1.out).setCell (Nat.le_refl _) _⟩
  · go_wp2_with fail
    refine (s_Next (w.heap.size + 1) a len cap 4 _ D6.out.src (by omega) (by omega)).mono ?_
    rintro e w6 ⟨c, rfl, c0, c1, c2, src, gr⟩
    have D7 := Lib.hid (D6.out.call src gr); have c7 := D7.out.c1; have rc7 := D7.out.old RC.out (by omega); have rf7 := D7.out.oldF RC.out RF.out (by omega); clear src gr
    clear c1 c2 c6 rc6 rf6
    by_cases k0 : c = 0
    · subst k0
      go_wp2_with fail
      go_region_held3 (fun w' => w'.cell? ⟨w2.heap.size, 0, none⟩ = some (.slice a' n cap')) (first | (refine DL.c1 (l := []) (g := w.heap.size) (a' := a') (n := n) (L := L) (B := w.heap.size + 1) (a := a) (len := len) (cap := cap) (w0 := w1) ?_; ((repeat (first | (with_reducible exact Hid.out (by assumption)) | (with_reducible refine DL.alloc ?_ _) | (with_reducible refine DL.drewN ?_ _) | (with_reducible refine DL.drew ?_) | (with_reducible refine DL.later ?_ (Hid.out (by assumption))))); done)) | (rw [World.cell?_setCell_other _ _ _ _ (by simp [hn1, hn2])]; refine DL.c1 (l := []) (g := w.heap.size) (a' := a') (n := n) (L := L) (B := w.heap.size + 1) (a := a) (len := len) (cap := cap) (w0 := w1) ?_; ((repeat (first | (with_reducible exact Hid.out (by assumption)) | (with_reducible refine DL.alloc ?_ _) | (with_reducible refine DL.drewN ?_ _) | (with_reducible refine DL.drew ?_) | (with_reducible refine DL.later ?_ (Hid.out (by assumption))))); done)))
        (first
          | (go_at_call 79; refine (s_Next (w.heap.size + 1) a len cap 2 _ (show DL [(w2.heap.size, 0, .slice a' n cap')] w.heap.size a' n L (w.heap.size + 1) a len cap w1 _ from (by repeat (first | (with_reducible exact Hid.out (by assumption)) | (with_reducible refine DL.alloc ?_ _) | (with_reducible refine DL.drewN ?_ _) | (with_reducible refine DL.drew ?_) | (with_reducible refine DL.later ?_ (Hid.out (by assumption)))))).src (by omega) (by omega)).mono ?_; rintro e w8 ⟨v, rfl, v0, v1, v2, src, gr⟩; have D8 := Lib.hid (DL.call (show DL [(w2.heap.size, 0, .slice a' n cap')] w.heap.size a' n L (w.heap.size + 1) a len cap w1 _ from (by repeat (first | (with_reducible exact Hid.out (by assumption)) | (with_reducible refine DL.alloc ?_ _) | (with_reducible refine DL.drewN ?_ _) | (with_reducible refine DL.drew ?_) | (with_reducible refine DL.later ?_ (Hid.out (by assumption)))))) src gr); have rc8 := D8.out.old RC.out (by omega); have rf8 := D8.out.oldF RC.out RF.out (by omega); clear src gr v1 v2)
          | (go_at_call 78; refine (s_l05ModE _ 1 _ (by omega) (by omega) (WR.out _).1 (WR.out _).2).mono ?_; rintro e w9 ⟨r, rfl, r0, r1, rfl⟩))
      all_goals
        go_wp2_with fail
        refine bodyPost_ret (v := .tuple #[.agg #[.slice a' n cap'], .int .i64 p, .int .i64 r, .int .i64 q]) (by simp [results, Try.results26, go_sem, *]) rfl ⟨a', n, cap', L, p, r, q, rfl, D8.out.set _ _, hcap, Hp.out, ⟨by omega, by omega⟩, ⟨by have := Hq.out; omega, by have := Hq.out; omega⟩, (dl_below D8.out B1.out).setCell (Nat.le_refl _) _⟩
    · have e0 : (c == 0) = false := by simpa using k0
      clear k0
      go_wp2_with fail
      go_region_held3 (fun w' => w'.cell? ⟨w2.heap.size, 0, none⟩ = some (.slice a' n cap')) (first | (refine DL.c1 (l := []) (g := w.heap.size) (a' := a') (n := n) (L := L) (B := w.heap.size + 1) (a := a) (len := len) (cap := cap) (w0 := w1) ?_; ((repeat (first | (with_reducible exact Hid.out (by assumption)) | (with_reducible refine DL.alloc ?_ _) | (with_reducible refine DL.drewN ?_ _) | (with_reducible refine DL.drew ?_) | (with_reducible refine DL.later ?_ (Hid.out (by assumption))))); done)) | (rw [World.cell?_setCell_other _ _ _ _ (by simp [hn1, hn2])]; refine DL.c1 (l := []) (g := w.heap.size) (a' := a') (n := n) (L := L) (B := w.heap.size + 1) (a := a) (len := len) (cap := cap) (w0 := w1) ?_; ((repeat (first | (with_reducible exact Hid.out (by assumption)) | (with_reducible refine DL.alloc ?_ _) | (with_reducible refine DL.drewN ?_ _) | (with_reducible refine DL.drew ?_) | (with_reducible refine DL.later ?_ (Hid.out (by assumption))))); done))) ((go_at_call 68; refine (s_DrawPositionW (w.heap.size + 1) a len cap a' n cap' L _ (show DL [(w2.heap.size, 0, .slice a' n cap')] w.heap.size a' n L (w.heap.size + 1) a len cap w1 _ from (by repeat (first | (with_reducible exact Hid.out (by assumption)) | (with_reducible refine DL.alloc ?_ _) | (with_reducible refine DL.drewN ?_ _) | (with_reducible refine DL.drew ?_) | (with_reducible refine DL.later ?_ (Hid.out (by assumption)))))).src (show DL [(w2.heap.size, 0, .slice a' n cap')] w.heap.size a' n L (w.heap.size + 1) a len cap w1 _ from (by repeat (first | (with_reducible exact Hid.out (by assumption)) | (with_reducible refine DL.alloc ?_ _) | (with_reducible refine DL.drewN ?_ _) | (with_reducible refine DL.drew ?_) | (with_reducible refine DL.later ?_ (Hid.out (by assumption)))))).sg h26 SM.out).mono ?_; rintro e w9 ⟨r, rfl, hr, src, gr⟩; have Hr := Lib.hid hr; have D9 := Lib.hid (DL.call (show DL [(w2.heap.size, 0, .slice a' n cap')] w.heap.size a' n L (w.heap.size + 1) a len cap w1 _ from (by repeat (first | (with_reducible exact Hid.out (by assumption)) | (with_reducible refine DL.alloc ?_ _) | (with_reducible refine DL.drewN ?_ _) | (with_reducible refine DL.drew ?_) | (with_reducible refine DL.later ?_ (Hid.out (by assumption)))))) src gr); have rc9 := D9.out.old RC.out (by omega); have rf9 := D9.out.oldF RC.out RF.out (by omega); clear src gr hr))
      all_goals
        go_wp2_with fail
        refine bodyPost_ret (v := .tuple #[.agg #[.slice a' n cap'], .int .i64 p, .int .i64 r, .int .i64 q]) (by simp [results, Try.results26, go_sem, *]) rfl ⟨a', n, cap', L, p, r, q, rfl, D9.out.set _ _, hcap, Hp.out, Hr.out, ⟨by have := Hq.out; omega, by have := Hq.out; omega⟩, (dl_below D9.out B1.out).setCell (Nat.le_refl _) _⟩
set_option maxRecDepth 100000 in
theorem s_DrawAreSeparate (a : Option Addr) (len cap : Nat) (w : World) (hs : Bytes w a len) :
    Calls Try.prog 29 #[.slice a len cap] w (DrawnLF w) := by
  have HS := Lib.hid hs
  clear hs
  go_enter Try.func29, Try.ntmps29
  go_wp2_with fail
  refine (s_From a len cap _ (HS.out.later ((Below.refl _ _).alloc (Nat.le_refl _) _))).mono ?_
  rintro e w1 ⟨rfl, src, lt, bel⟩
  rw [World.size_alloc] at src lt bel ⊢
  have S1 := Lib.hid src
  have BL := Lib.hid bel
  clear src bel
  go_wp2_with fail
  refine (s_Draw (w.heap.size + 1) a len cap _ S1.out).mono ?_
  rintro e w2 ⟨a', n, cap', L, rfl, hl, hcap, h26, hsm, hbl, src, gr⟩
  obtain ⟨d2, b1, rc, rf, hz1⟩ := dl_begin S1.out BL.out hl hbl src gr
  have D2 := Lib.hid d2
  have B1 := Lib.hid b1
  have RC := Lib.hid rc; have RF := Lib.hid rf
  have SM : Hid (∀ x ∈ L, SmW x) := Lib.hid (fun x hx => (hsm x hx).w)
  have hz2 := gr.size
  have hn1 : w2.heap.size ≠ w.heap.size := by omega
  have hn2 : w.heap.size ≠ w2.heap.size := by omega
  have D3 := Lib.hid (D2.out.box (.slice a' n cap') 26)
  clear hl hbl src gr d2 b1 rc rf hsm lt S1 BL D2
  go_wp2_with fail
  refine (s_DrawLength5 (w.heap.size + 1) a len cap a' n cap' L _ D3.out.src D3.out.sg h26 SM.out D3.out.nB).mono ?_
  rintro e w3 ⟨q, rfl, hq, src, gr⟩
  have Hq : Hid (-300000000 ≤ q ∧ q ≤ 300000000) := Lib.hid (by omega)
  have D4 := Lib.hid (D3.out.call src gr); have c4 := D4.out.c1; have rc4 := D4.out.old RC.out (by omega); have rf4 := D4.out.oldF RC.out RF.out (by omega); clear src gr
  clear hq
  go_wp2_with fail
  go_region_held3 (fun w' => w'.cell? ⟨w2.heap.size, 0, none⟩ = some (.slice a' n cap')) (first | (refine DL.c1 (l := []) (g := w.heap.size) (a' := a') (n := n) (L := L) (B := w.heap.size + 1) (a := a) (len := len) (cap := cap) (w0 := w1) ?_; ((repeat (first | (with_reducible exact Hid.out (by assumption)) | (with_reducible refine DL.alloc ?_ _) | (with_reducible refine DL.drewN ?_ _) | (with_reducible refine DL.drew ?_) | (with_reducible refine DL.later ?_ (Hid.out (by assumption))))); done)) | (rw [World.cell?_setCell_other _ _ _ _ (by simp [hn1, hn2])]; refine DL.c1 (l := []) (g := w.heap.size) (a' := a') (n := n) (L := L) (B := w.heap.size + 1) (a := a) (len := len) (cap := cap) (w0 := w1) ?_; ((repeat (first | (with_reducible exact Hid.out (by assumption)) | (with_reducible refine DL.alloc ?_ _) | (with_reducible refine DL.drewN ?_ _) | (with_reducible refine DL.drew ?_) | (with_reducible refine DL.later ?_ (Hid.out (by assumption))))); done)))
    ((go_at_call 83; refine (s_DrawFronts5 (w.heap.size + 1) a len cap a' n cap' L q _ (show DL [(w2.heap.size, 0, .slice a' n cap')] w.heap.size a' n L (w.heap.size + 1) a len cap w1 _ from (by repeat (first | (with_reducible exact Hid.out (by assumption)) | (with_reducible refine DL.alloc ?_ _) | (with_reducible refine DL.drewN ?_ _) | (with_reducible refine DL.drew ?_) | (with_reducible refine DL.later ?_ (Hid.out (by assumption)))))).src (show DL [(w2.heap.size, 0, .slice a' n cap')] w.heap.size a' n L (w.heap.size + 1) a len cap w1 _ from (by repeat (first | (with_reducible exact Hid.out (by assumption)) | (with_reducible refine DL.alloc ?_ _) | (with_reducible refine DL.drewN ?_ _) | (with_reducible refine DL.drew ?_) | (with_reducible refine DL.later ?_ (Hid.out (by assumption)))))).sg h26 SM.out Hq.out.1 Hq.out.2).mono ?_; rintro e w5 ⟨v, F, rfl, ho, hm, src, gr⟩; have hz5 := (show DL [(w2.heap.size, 0, .slice a' n cap')] w.heap.size a' n L (w.heap.size + 1) a len cap w1 _ from (by repeat (first | (with_reducible exact Hid.out (by assumption)) | (with_reducible refine DL.alloc ?_ _) | (with_reducible refine DL.drewN ?_ _) | (with_reducible refine DL.drew ?_) | (with_reducible refine DL.later ?_ (Hid.out (by assumption)))))).1.le; obtain ⟨A, capF, rfl, hsl, hcF, hbA⟩ := ho.rows; have O5 := Lib.hid hsl; have HA : Hid (∀ x, A = some x → x.block ≠ w.heap.size) := Lib.hid (fun x hx => by have h9 := hbA x hx; have h8 := D4.out.drew.1.le; omega); have D5 := Lib.hid (DL.call (show DL [(w2.heap.size, 0, .slice a' n cap')] w.heap.size a' n L (w.heap.size + 1) a len cap w1 _ from (by repeat (first | (with_reducible exact Hid.out (by assumption)) | (with_reducible refine DL.alloc ?_ _) | (with_reducible refine DL.drewN ?_ _) | (with_reducible refine DL.drew ?_) | (with_reducible refine DL.later ?_ (Hid.out (by assumption)))))) src gr); have rc5 := D5.out.old RC.out (by omega); have rf5 := D5.out.oldF RC.out RF.out (by omega); clear src gr ho hsl hbA))
  all_goals
    go_wp2_with fail
    refine bodyPost_ret (v := .tuple #[.agg #[.slice a' n cap'], .slice A F.length capF, .int .i64 q]) (by simp [results, Try.results29, go_sem, *]) rfl ⟨a', n, cap', L, A, F.length, capF, F, q, rfl, D5.out.set _ _, hcap, O5.out.far _ _ _ HA.out, hcF, hm, ⟨by have := Hq.out; omega, by have := Hq.out; omega⟩, (dl_below D5.out B1.out).setCell (Nat.le_refl _) _⟩
end Go.Proofs.Ytehinlecppbjeaa
namespace Go.Proofs.Ytehinlecppbjeaa
open Go.RowKit
set_option maxHeartbeats 2000000
set_option linter.unusedVariables false
set_option linter.unusedSimpArgs false
theorem i_TL_ok (a : Option Addr) (n cap : Nat) (L : List Sg) (w : World) (hs : Sgs w a n L) (hv : layB L = true) :
    Calls Try.prog 32 #[.agg #[.slice a n cap]] w fun e w' => e = .returned (.tuple #[.int .i64 (totL L), .int .i64 0]) ∧ Later w w' := by
  have c := i_TrackLength a n cap L w hs
  unfold tlV tlE at c
  rw [hv] at c
  exact c
theorem i_TL_no (a : Option Addr) (n cap : Nat) (L : List Sg) (w : World) (hs : Sgs w a n L) (hv : layB L = false) :
    Calls Try.prog 32 #[.agg #[.slice a n cap]] w fun e w' => e = .returned (.tuple #[.int .i64 0, .int .i64 1]) ∧ Later w w' := by
  have c := i_TrackLength a n cap L w hs
  unfold tlV tlE at c
  rw [hv] at c
  exact c
theorem i_RearOf (a : Option Addr) (n cap : Nat) (L : List Sg) (p q : Int) (w : World) (hs : Sgs w a n L) (hp : InR p) :
    Calls Try.prog 22 #[.agg #[.slice a n cap], .int .i64 p, .int .i64 q] w fun e w' => e = .returned (.tuple #[.int .i64 (rearV L p q), .int .i64 (trE L p q)]) ∧ Later w w' := by
  have HS := Lib.hid hs
  have HP := Lib.hid hp
  clear hs hp
  cases hv : layB L
  · have HT : Hid (rearV L p q = 0 ∧ trE L p q = 1) := Lib.hid (by unfold rearV; rw [trE_bad hv]; simp)
    go_enter Try.func22, Try.ntmps22
    go_wp2_with (go_at_call 32; refine (i_TL_no a n cap L _ (HS.out.later ((Later.refl _).alloc _)) hv).mono ?_; rintro e w1 ⟨rfl, hb⟩; obtain ⟨H, hcc, hff, hzz⟩ := later_facts hb; clear hb; (try simp at hzz); (try simp only [World.heap_drewN, World.cell?_drewN, World.frozen?_drewN] at hcc hff))
    go_ret2
    exact ⟨ret_2i (by rw [HT.out.1]) (by rw [HT.out.2]), (by repeat (first | (with_reducible exact Later.refl _) | (with_reducible exact Hid.out (by assumption)) | (with_reducible refine Later.alloc ?_ _) | (with_reducible refine Later.setCell ?_ (by simp; omega) _) | (with_reducible refine Later.setCell ?_ (by simp) _) | (with_reducible refine Later.drewN ?_ _) | (with_reducible refine Later.drew ?_) | (with_reducible refine Later.trans ?_ (Hid.out (by assumption)))))⟩
  · obtain ⟨t1, t2⟩ := tot_bd hv
    have HO : ∀ (w0 : World) (T : TypeId), Hid (Sl (w0.alloc (.cells #[.int .i64 p] T)) (some ⟨w0.heap.size, 0, none⟩) 1 [p]) := fun w0 T => Lib.hid (sl_one w0 T p HP.out)
    have HO := Lib.hid HO
    cases hc : trsB (totL L) q [p]
    · have HT : Hid (rearV L p q = 0 ∧ trE L p q = 2) := Lib.hid (by
        have : trE L p q = 2 := by unfold trE; rw [if_pos hv, hc]; simp
        unfold rearV; rw [this]; simp)
      go_enter Try.func22, Try.ntmps22
      go_wp2_with (first
        | (go_at_call 32; refine (i_TL_ok a n cap L _ (HS.out.later ((Later.refl _).alloc _)) hv).mono ?_; rintro e w1 ⟨rfl, hb⟩; obtain ⟨H, hcc, hff, hzz⟩ := later_facts hb; clear hb; (try simp at hzz); (try simp only [World.heap_drewN, World.cell?_drewN, World.frozen?_drewN] at hcc hff))
        | (go_at_call 75; refine (i_areTrains (totL L) q _ 1 1 [p] _ (HO.out _ _).out).mono ?_; rw [hc]; rintro e w' ⟨rfl, rfl⟩))
      go_ret2
      exact ⟨ret_2i (by rw [HT.out.1]) (by rw [HT.out.2]), (by repeat (first | (with_reducible exact Later.refl _) | (with_reducible exact Hid.out (by assumption)) | (with_reducible refine Later.alloc ?_ _) | (with_reducible refine Later.setCell ?_ (by simp; omega) _) | (with_reducible refine Later.setCell ?_ (by simp) _) | (with_reducible refine Later.drewN ?_ _) | (with_reducible refine Later.drew ?_) | (with_reducible refine Later.trans ?_ (Hid.out (by assumption)))))⟩
    · have HT : Hid (rearV L p q = rearK (totL L) p q ∧ trE L p q = 0) := Lib.hid (by
        have : trE L p q = 0 := by unfold trE; rw [if_pos hv, hc]; simp
        unfold rearV; rw [this]; simp)
      have hx := hc
      rw [trsB_one, Bool.and_eq_true, isN_iff, isP_iff] at hx
      obtain ⟨⟨q1, q2, q3⟩, p1, p2⟩ := hx
      go_enter Try.func22, Try.ntmps22
      go_wp2_with (first
        | (go_at_call 32; refine (i_TL_ok a n cap L _ (HS.out.later ((Later.refl _).alloc _)) hv).mono ?_; rintro e w1 ⟨rfl, hb⟩; obtain ⟨H, hcc, hff, hzz⟩ := later_facts hb; clear hb; (try simp at hzz); (try simp only [World.heap_drewN, World.cell?_drewN, World.frozen?_drewN] at hcc hff))
        | (go_at_call 75; refine (i_areTrains (totL L) q _ 1 1 [p] _ (HO.out _ _).out).mono ?_; rw [hc]; rintro e w' ⟨rfl, rfl⟩)
        | (go_at_call 76; refine (i_rearAt (totL L) p q _ (by omega) t2 p1 p2 q1 q3).mono ?_; rintro e w' ⟨rfl, rfl⟩))
      go_ret2
      exact ⟨ret_2i (by rw [HT.out.1]) (by rw [HT.out.2]), (by repeat (first | (with_reducible exact Later.refl _) | (with_reducible exact Hid.out (by assumption)) | (with_reducible refine Later.alloc ?_ _) | (with_reducible refine Later.setCell ?_ (by simp; omega) _) | (with_reducible refine Later.setCell ?_ (by simp) _) | (with_reducible refine Later.drewN ?_ _) | (with_reducible refine Later.drew ?_) | (with_reducible refine Later.trans ?_ (Hid.out (by assumption)))))⟩
theorem i_MoveFront (a : Option Addr) (n cap : Nat) (L : List Sg) (p q : Int) (w : World) (hs : Sgs w a n L) :
    Calls Try.prog 19 #[.agg #[.slice a n cap], .int .i64 p, .int .i64 q] w fun e w' => e = .returned (.tuple #[.int .i64 (movV L p q), .int .i64 (mvE L p q)]) ∧ Later w w' := by
  have HS := Lib.hid hs
  clear hs
  cases hv : layB L
  · have HT : Hid (movV L p q = 0 ∧ mvE L p q = 1) := Lib.hid (by unfold movV; rw [mvE_bad hv]; simp)
    go_enter Try.func19, Try.ntmps19
    go_wp2_with (go_at_call 32; refine (i_TL_no a n cap L _ (HS.out.later ((Later.refl _).alloc _)) hv).mono ?_; rintro e w1 ⟨rfl, hb⟩; obtain ⟨H, hcc, hff, hzz⟩ := later_facts hb; clear hb; (try simp at hzz); (try simp only [World.heap_drewN, World.cell?_drewN, World.frozen?_drewN] at hcc hff))
    go_ret2
    exact ⟨ret_2i (by rw [HT.out.1]) (by rw [HT.out.2]), (by repeat (first | (with_reducible exact Later.refl _) | (with_reducible exact Hid.out (by assumption)) | (with_reducible refine Later.alloc ?_ _) | (with_reducible refine Later.setCell ?_ (by simp; omega) _) | (with_reducible refine Later.setCell ?_ (by simp) _) | (with_reducible refine Later.drewN ?_ _) | (with_reducible refine Later.drew ?_) | (with_reducible refine Later.trans ?_ (Hid.out (by assumption)))))⟩
  · obtain ⟨t1, t2⟩ := tot_bd hv
    cases hc : mvB (totL L) p q
    · have HT : Hid (movV L p q = 0 ∧ mvE L p q = 2) := Lib.hid (by
        unfold movV; rw [mvE_no hv hc]; simp)
      go_enter Try.func19, Try.ntmps19
      go_wp2_with (first
        | (go_at_call 32; refine (i_TL_ok a n cap L _ (HS.out.later ((Later.refl _).alloc _)) hv).mono ?_; rintro e w1 ⟨rfl, hb⟩; obtain ⟨H, hcc, hff, hzz⟩ := later_facts hb; clear hb; (try simp at hzz); (try simp only [World.heap_drewN, World.cell?_drewN, World.frozen?_drewN] at hcc hff))
        | (go_at_call 70; refine (i_isMove (totL L) p q _).mono ?_; rw [hc]; rintro e w' ⟨rfl, rfl⟩))
      go_ret2
      exact ⟨ret_2i (by rw [HT.out.1]) (by rw [HT.out.2]), (by repeat (first | (with_reducible exact Later.refl _) | (with_reducible exact Hid.out (by assumption)) | (with_reducible refine Later.alloc ?_ _) | (with_reducible refine Later.setCell ?_ (by simp; omega) _) | (with_reducible refine Later.setCell ?_ (by simp) _) | (with_reducible refine Later.drewN ?_ _) | (with_reducible refine Later.drew ?_) | (with_reducible refine Later.trans ?_ (Hid.out (by assumption)))))⟩
    · have HT : Hid (movV L p q = (p + q) % totL L ∧ mvE L p q = 0) := Lib.hid (by
        unfold movV; rw [mvE_yes hv hc]; simp)
      have hx := hc
      rw [mvB_iff] at hx
      obtain ⟨⟨p1, p2⟩, q1, q2⟩ := hx
      go_enter Try.func19, Try.ntmps19
      go_wp2_with (first
        | (go_at_call 32; refine (i_TL_ok a n cap L _ (HS.out.later ((Later.refl _).alloc _)) hv).mono ?_; rintro e w1 ⟨rfl, hb⟩; obtain ⟨H, hcc, hff, hzz⟩ := later_facts hb; clear hb; (try simp at hzz); (try simp only [World.heap_drewN, World.cell?_drewN, World.frozen?_drewN] at hcc hff))
        | (go_at_call 70; refine (i_isMove (totL L) p q _).mono ?_; rw [hc]; rintro e w' ⟨rfl, rfl⟩)
        | (go_at_call 71; refine (i_around (totL L) (p + q) _ (by omega) (by omega) (by omega) (by omega)).mono ?_; rintro e w' ⟨rfl, rfl⟩))
      go_ret2
      exact ⟨ret_2i (by rw [HT.out.1]) (by rw [HT.out.2]), (by repeat (first | (with_reducible exact Later.refl _) | (with_reducible exact Hid.out (by assumption)) | (with_reducible refine Later.alloc ?_ _) | (with_reducible refine Later.setCell ?_ (by simp; omega) _) | (with_reducible refine Later.setCell ?_ (by simp) _) | (with_reducible refine Later.drewN ?_ _) | (with_reducible refine Later.drew ?_) | (with_reducible refine Later.trans ?_ (Hid.out (by assumption)))))⟩
theorem i_frontDistance (T x y : Int) (w : World) (hT : 0 < T) (hT2 : T ≤ 4800000) (hx : 0 ≤ x) (hx2 : x < T) (hy : 0 ≤ y) (hy2 : y < T) :
    Calls Try.prog 81 #[.int .i64 T, .int .i64 x, .int .i64 y] w fun e w' => e = .returned (.int .i64 (ahead T x y)) ∧ w = w' := by
  have HA : Hid (ahead T x y = (y - x) % T) := Lib.hid rfl
  go_enter Try.func81, Try.ntmps81
  go_wp2_with (go_at_call 71; refine (i_around T (y - x) _ hT (by omega) (by omega) (by omega)).mono ?_; rintro e w' ⟨rfl, rfl⟩)
  go_ret
  exact ⟨ret_i64 HA.out.symm, rfl⟩
theorem i_isApart (T x y q : Int) (w : World) (hT : 0 < T) (hT2 : T ≤ 4800000) (hx : 0 ≤ x) (hx2 : x < T) (hy : 0 ≤ y) (hy2 : y < T) :
    Calls Try.prog 80 #[.int .i64 T, .int .i64 x, .int .i64 y, .int .i64 q] w fun e w' => e = .returned (.bool (apB T x y q)) ∧ w = w' := by
  obtain ⟨r1, r2⟩ : 0 ≤ ahead T x y ∧ ahead T x y < T := mod_rng _ T hT
  have HA : Hid (apB T x y q = (decide (q ≤ ahead T x y) && decide (q ≤ T - ahead T x y))) := Lib.hid rfl
  generalize hr : ahead T x y = r at r1 r2 HA
  have HR := Lib.hid hr
  clear hr
  by_cases h1 : q ≤ r
  · by_cases h2 : q ≤ T - r
    · go_enter Try.func80, Try.ntmps80
      go_wp2_with (go_at_call 81; refine (i_frontDistance T x y _ hT hT2 hx hx2 hy hy2).mono ?_; rw [HR.out]; rintro e w' ⟨rfl, rfl⟩)
      go_ret
      exact ⟨ret_b (by rw [HA.out]; simp [h1, h2]), rfl⟩
    · go_enter Try.func80, Try.ntmps80
      go_wp2_with (go_at_call 81; refine (i_frontDistance T x y _ hT hT2 hx hx2 hy hy2).mono ?_; rw [HR.out]; rintro e w' ⟨rfl, rfl⟩)
      go_ret
      exact ⟨ret_b (by rw [HA.out]; simp [h1, h2]), rfl⟩
  · go_enter Try.func80, Try.ntmps80
    go_wp2_with (go_at_call 81; refine (i_frontDistance T x y _ hT hT2 hx hx2 hy hy2).mono ?_; rw [HR.out]; rintro e w' ⟨rfl, rfl⟩)
    go_ret
    exact ⟨ret_b (by rw [HA.out]; simp; omega), rfl⟩
theorem trs_two {L : List Sg} (hv : layB L = true) (x y q : Int) : (trsB (totL L) q [x, y] = false → gapE L x y q = 2) ∧ (trsB (totL L) q [x, y] = true → gapE L x y q = if apB (totL L) x y q = true then 0 else 5) := by
  unfold gapE trE
  rw [if_pos hv, if_pos hv, trsB_one, trsB_one, trsB_two]
  cases isN (totL L) q <;> cases isP (totL L) x <;> cases isP (totL L) y <;> simp
set_option maxRecDepth 100000 in
theorem i_GapAhead (a : Option Addr) (n cap : Nat) (L : List Sg) (x y q : Int) (w : World) (hs : Sgs w a n L) (hx : InR x) (hy : InR y) :
    Calls Try.prog 27 #[.agg #[.slice a n cap], .int .i64 x, .int .i64 y, .int .i64 q] w fun e w' => e = .returned (.tuple #[.int .i64 (gapV L x y q), .int .i64 (gapE L x y q)]) ∧ Later w w' := by
  have HS := Lib.hid hs
  have HX := Lib.hid hx; have HY := Lib.hid hy
  clear hs hx hy
  cases hv : layB L
  · have HT : Hid (gapV L x y q = 0 ∧ gapE L x y q = 1) := Lib.hid (by
      have : gapE L x y q = 1 := by unfold gapE; rw [trE_bad hv]; simp
      unfold gapV; rw [this]; simp)
    go_enter Try.func27, Try.ntmps27
    go_wp2_with (go_at_call 32; refine (i_TL_no a n cap L _ (HS.out.later ((Later.refl _).alloc _)) hv).mono ?_; rintro e w1 ⟨rfl, hb⟩; obtain ⟨H, hcc, hff, hzz⟩ := later_facts hb; clear hb; (try simp at hzz); (try simp only [World.heap_drewN, World.cell?_drewN, World.frozen?_drewN] at hcc hff))
    go_ret2
    exact ⟨ret_2i (by rw [HT.out.1]) (by rw [HT.out.2]), (by repeat (first | (with_reducible exact Later.refl _) | (with_reducible exact Hid.out (by assumption)) | (with_reducible refine Later.alloc ?_ _) | (with_reducible refine Later.setCell ?_ (by simp; omega) _) | (with_reducible refine Later.setCell ?_ (by simp) _) | (with_reducible refine Later.drewN ?_ _) | (with_reducible refine Later.drew ?_) | (with_reducible refine Later.trans ?_ (Hid.out (by assumption)))))⟩
  · obtain ⟨t1, t2⟩ := tot_bd hv
    have HO : ∀ (w0 : World) (T : TypeId), Hid (Sl (w0.alloc (.cells #[.int .i64 x, .int .i64 y] T)) (some ⟨w0.heap.size, 0, none⟩) 2 [x, y]) := fun w0 T => Lib.hid (sl_two w0 T x y HX.out HY.out)
    have HO := Lib.hid HO
    cases hc : trsB (totL L) q [x, y]
    · have HT : Hid (gapV L x y q = 0 ∧ gapE L x y q = 2) := Lib.hid (by
        have := (trs_two hv x y q).1 hc
        unfold gapV; rw [this]; simp)
      go_enter Try.func27, Try.ntmps27
      go_wp2_with (first
        | (go_at_call 32; refine (i_TL_ok a n cap L _ (HS.out.later ((Later.refl _).alloc _)) hv).mono ?_; rintro e w1 ⟨rfl, hb⟩; obtain ⟨H, hcc, hff, hzz⟩ := later_facts hb; clear hb; (try simp at hzz); (try simp only [World.heap_drewN, World.cell?_drewN, World.frozen?_drewN] at hcc hff))
        | (go_at_call 75; refine (i_areTrains (totL L) q _ 2 2 [x, y] _ (HO.out _ _).out).mono ?_; rw [hc]; rintro e w' ⟨rfl, rfl⟩))
      go_ret2
      exact ⟨ret_2i (by rw [HT.out.1]) (by rw [HT.out.2]), (by repeat (first | (with_reducible exact Later.refl _) | (with_reducible exact Hid.out (by assumption)) | (with_reducible refine Later.alloc ?_ _) | (with_reducible refine Later.setCell ?_ (by simp; omega) _) | (with_reducible refine Later.setCell ?_ (by simp) _) | (with_reducible refine Later.drewN ?_ _) | (with_reducible refine Later.drew ?_) | (with_reducible refine Later.trans ?_ (Hid.out (by assumption)))))⟩
    · have hx := hc
      rw [trsB_two, Bool.and_eq_true, Bool.and_eq_true, isN_iff, isP_iff, isP_iff] at hx
      obtain ⟨⟨q1, q2, q3⟩, ⟨x1, x2⟩, y1, y2⟩ := hx
      cases ha : apB (totL L) x y q
      · have HT : Hid (gapV L x y q = 0 ∧ gapE L x y q = 5) := Lib.hid (by
          have := (trs_two hv x y q).2 hc
          rw [ha] at this
          unfold gapV; rw [this]; simp)
        go_enter Try.func27, Try.ntmps27
        go_wp2_with (first
          | (go_at_call 32; refine (i_TL_ok a n cap L _ (HS.out.later ((Later.refl _).alloc _)) hv).mono ?_; rintro e w1 ⟨rfl, hb⟩; obtain ⟨H, hcc, hff, hzz⟩ := later_facts hb; clear hb; (try simp at hzz); (try simp only [World.heap_drewN, World.cell?_drewN, World.frozen?_drewN] at hcc hff))
          | (go_at_call 75; refine (i_areTrains (totL L) q _ 2 2 [x, y] _ (HO.out _ _).out).mono ?_; rw [hc]; rintro e w' ⟨rfl, rfl⟩)
          | (go_at_call 80; refine (i_isApart (totL L) x y q _ (by omega) t2 x1 x2 y1 y2).mono ?_; rw [ha]; rintro e w' ⟨rfl, rfl⟩))
        go_ret2
        exact ⟨ret_2i (by rw [HT.out.1]) (by rw [HT.out.2]), (by repeat (first | (with_reducible exact Later.refl _) | (with_reducible exact Hid.out (by assumption)) | (with_reducible refine Later.alloc ?_ _) | (with_reducible refine Later.setCell ?_ (by simp; omega) _) | (with_reducible refine Later.setCell ?_ (by simp) _) | (with_reducible refine Later.drewN ?_ _) | (with_reducible refine Later.drew ?_) | (with_reducible refine Later.trans ?_ (Hid.out (by assumption)))))⟩
      · have HT : Hid (gapV L x y q = ahead (totL L) x y - q ∧ gapE L x y q = 0) := Lib.hid (by
          have := (trs_two hv x y q).2 hc
          rw [ha] at this
          unfold gapV; rw [this]; simp)
        obtain ⟨r1, r2⟩ : 0 ≤ ahead (totL L) x y ∧ ahead (totL L) x y < totL L := mod_rng _ _ (by omega)
        go_enter Try.func27, Try.ntmps27
        go_wp2_with (first
          | (go_at_call 32; refine (i_TL_ok a n cap L _ (HS.out.later ((Later.refl _).alloc _)) hv).mono ?_; rintro e w1 ⟨rfl, hb⟩; obtain ⟨H, hcc, hff, hzz⟩ := later_facts hb; clear hb; (try simp at hzz); (try simp only [World.heap_drewN, World.cell?_drewN, World.frozen?_drewN] at hcc hff))
          | (go_at_call 75; refine (i_areTrains (totL L) q _ 2 2 [x, y] _ (HO.out _ _).out).mono ?_; rw [hc]; rintro e w' ⟨rfl, rfl⟩)
          | (go_at_call 80; refine (i_isApart (totL L) x y q _ (by omega) t2 x1 x2 y1 y2).mono ?_; rw [ha]; rintro e w' ⟨rfl, rfl⟩)
          | (go_at_call 81; refine (i_frontDistance (totL L) x y _ (by omega) t2 x1 x2 y1 y2).mono ?_; rintro e w' ⟨rfl, rfl⟩))
        go_ret2
        exact ⟨ret_2i (by rw [HT.out.1]) (by rw [HT.out.2]), (by repeat (first | (with_reducible exact Later.refl _) | (with_reducible exact Hid.out (by assumption)) | (with_reducible refine Later.alloc ?_ _) | (with_reducible refine Later.setCell ?_ (by simp; omega) _) | (with_reducible refine Later.setCell ?_ (by simp) _) | (with_reducible refine Later.drewN ?_ _) | (with_reducible refine Later.drew ?_) | (with_reducible refine Later.trans ?_ (Hid.out (by assumption)))))⟩
end Go.Proofs.Ytehinlecppbjeaa
namespace Go.Proofs.Ytehinlecppbjeaa
open Go.RowKit
set_option maxHeartbeats 2000000
set_option linter.unusedVariables false
set_option linter.unusedSimpArgs false
/-- the length of the track beside sensors, or a code -/
def tsV (L : List Sg) (S : List Int) : Int := if senB L S = true then totL L else 0
def tsE (L : List Sg) (S : List Int) : Int := if senB L S = true then 0 else 1
theorem i_trackOfSensors (a : Option Addr) (n cap : Nat) (L : List Sg) (A : Option Addr) (m capF : Nat) (F : List Int) (w : World) (hs : Sgs w a n L) (hf : Sl w A m F) :
    Calls Try.prog 97 #[.agg #[.slice a n cap], .slice A m capF] w fun e w' => e = .returned (.tuple #[.int .i64 (tsV L F), .int .i64 (tsE L F)]) ∧ Later w w' := by
  have HS := Lib.hid hs
  have HF := Lib.hid hf
  have HM := Lib.hid hf.1
  have hm := hf.2.1
  clear hs hf
  have NO : senB L F = false → Hid (tsV L F = 0 ∧ tsE L F = 1) := fun h => Lib.hid (by unfold tsV tsE; rw [h]; simp)
  cases hv : layB L
  · have HT := NO (by rw [senB_no, hv]; simp)
    clear NO
    go_enter Try.func97, Try.ntmps97
    go_wp2_with (go_at_call 32; refine (i_TL_no a n cap L _ (HS.out.later ((Later.refl _).alloc _)) hv).mono ?_; rintro e w1 ⟨rfl, hb⟩; obtain ⟨H, hcc, hff, hzz⟩ := later_facts hb; clear hb; (try simp at hzz); (try simp only [World.heap_drewN, World.cell?_drewN, World.frozen?_drewN] at hcc hff))
    go_ret2
    exact ⟨ret_2i (by rw [HT.out.1]) (by rw [HT.out.2]), (by repeat (first | (with_reducible exact Later.refl _) | (with_reducible exact Hid.out (by assumption)) | (with_reducible refine Later.alloc ?_ _) | (with_reducible refine Later.setCell ?_ (by simp; omega) _) | (with_reducible refine Later.setCell ?_ (by simp) _) | (with_reducible refine Later.drewN ?_ _) | (with_reducible refine Later.drew ?_) | (with_reducible refine Later.trans ?_ (Hid.out (by assumption)))))⟩
  by_cases h32 : 32 < m
  · have HT := NO (by rw [senB_no, HM.out]; omega)
    clear NO
    go_enter Try.func97, Try.ntmps97
    go_wp2_with (go_at_call 32; refine (i_TL_ok a n cap L _ (HS.out.later ((Later.refl _).alloc _)) hv).mono ?_; rintro e w1 ⟨rfl, hb⟩; obtain ⟨H, hcc, hff, hzz⟩ := later_facts hb; clear hb; (try simp at hzz); (try simp only [World.heap_drewN, World.cell?_drewN, World.frozen?_drewN] at hcc hff))
    go_ret2
    exact ⟨ret_2i (by rw [HT.out.1]) (by rw [HT.out.2]), (by repeat (first | (with_reducible exact Later.refl _) | (with_reducible exact Hid.out (by assumption)) | (with_reducible refine Later.alloc ?_ _) | (with_reducible refine Later.setCell ?_ (by simp; omega) _) | (with_reducible refine Later.setCell ?_ (by simp) _) | (with_reducible refine Later.drewN ?_ _) | (with_reducible refine Later.drew ?_) | (with_reducible refine Later.trans ?_ (Hid.out (by assumption)))))⟩
  have h32' : m ≤ 32 := by omega
  cases hr : risB F (totL L)
  · have HT := NO (by rw [senB_no, hr]; simp)
    clear NO
    go_enter Try.func97, Try.ntmps97
    go_wp2_with (first
      | (go_at_call 32; refine (i_TL_ok a n cap L _ (HS.out.later ((Later.refl _).alloc _)) hv).mono ?_; rintro e w1 ⟨rfl, hb⟩; obtain ⟨H, hcc, hff, hzz⟩ := later_facts hb; clear hb; (try simp at hzz); (try simp only [World.heap_drewN, World.cell?_drewN, World.frozen?_drewN] at hcc hff))
      | (go_at_call 110; refine (i_IsRising A m capF F (totL L) _ (sl_lat HF.out (by repeat (first | (with_reducible exact Later.refl _) | (with_reducible exact Hid.out (by assumption)) | (with_reducible refine Later.alloc ?_ _) | (with_reducible refine Later.setCell ?_ (by simp; omega) _) | (with_reducible refine Later.setCell ?_ (by simp) _) | (with_reducible refine Later.drewN ?_ _) | (with_reducible refine Later.drew ?_) | (with_reducible refine Later.trans ?_ (Hid.out (by assumption))))))).mono ?_; rw [hr]; rintro e w' ⟨rfl, rfl⟩))
    go_ret2
    exact ⟨ret_2i (by rw [HT.out.1]) (by rw [HT.out.2]), (by repeat (first | (with_reducible exact Later.refl _) | (with_reducible exact Hid.out (by assumption)) | (with_reducible refine Later.alloc ?_ _) | (with_reducible refine Later.setCell ?_ (by simp; omega) _) | (with_reducible refine Later.setCell ?_ (by simp) _) | (with_reducible refine Later.drewN ?_ _) | (with_reducible refine Later.drew ?_) | (with_reducible refine Later.trans ?_ (Hid.out (by assumption)))))⟩
  · have HT : Hid (tsV L F = totL L ∧ tsE L F = 0) := Lib.hid (by
      have : senB L F = true := by rw [senB_iff, HM.out]; exact ⟨hv, h32', hr⟩
      unfold tsV tsE; rw [this]; simp)
    clear NO
    go_enter Try.func97, Try.ntmps97
    go_wp2_with (first
      | (go_at_call 32; refine (i_TL_ok a n cap L _ (HS.out.later ((Later.refl _).alloc _)) hv).mono ?_; rintro e w1 ⟨rfl, hb⟩; obtain ⟨H, hcc, hff, hzz⟩ := later_facts hb; clear hb; (try simp at hzz); (try simp only [World.heap_drewN, World.cell?_drewN, World.frozen?_drewN] at hcc hff))
      | (go_at_call 110; refine (i_IsRising A m capF F (totL L) _ (sl_lat HF.out (by repeat (first | (with_reducible exact Later.refl _) | (with_reducible exact Hid.out (by assumption)) | (with_reducible refine Later.alloc ?_ _) | (with_reducible refine Later.setCell ?_ (by simp; omega) _) | (with_reducible refine Later.setCell ?_ (by simp) _) | (with_reducible refine Later.drewN ?_ _) | (with_reducible refine Later.drew ?_) | (with_reducible refine Later.trans ?_ (Hid.out (by assumption))))))).mono ?_; rw [hr]; rintro e w' ⟨rfl, rfl⟩))
    go_ret2
    exact ⟨ret_2i (by rw [HT.out.1]) (by rw [HT.out.2]), (by repeat (first | (with_reducible exact Later.refl _) | (with_reducible exact Hid.out (by assumption)) | (with_reducible refine Later.alloc ?_ _) | (with_reducible refine Later.setCell ?_ (by simp; omega) _) | (with_reducible refine Later.setCell ?_ (by simp) _) | (with_reducible refine Later.drewN ?_ _) | (with_reducible refine Later.drew ?_) | (with_reducible refine Later.trans ?_ (Hid.out (by assumption)))))⟩
/-- what hands back a list of its own leaves -/
def Gives (w : World) (l : List Int) (e : Ending) (w' : World) : Prop := ∃ v, e = .returned v ∧ Own w' w.heap.size v l ∧ Later w w'
theorem i_sensorsOn (A : Option Addr) (m capF : Nat) (F : List Int) (x z : Int) (w : World) (hf : Sl w A m F) (h32 : m ≤ 1000) :
    Calls Try.prog 100 #[.slice A m capF, .agg #[.int .i64 x, .int .i64 z]] w (Gives w (onI F x z m)) := by
  have HF := Lib.hid hf
  have HM := Lib.hid hf.1
  have hm := hf.2.1
  clear hf
  go_enter Try.func100, Try.ntmps100
  go_wp2
  go_loopw [5, 10] (fun v i wr => ∃ k : Nat, k ≤ m ∧ i = .int .i64 k ∧ Own wr (w.heap.size + 1) v (onI F x z k) ∧ Later (w.alloc (.cells #[.int .i64 x, .int .i64 z] 91)) wr) (fun _ i _ => m - (intOf i).toNat)
  case atStart => exact ⟨0, by omega, rfl, by rw [onI_0]; exact own_none _ _, Later.refl _⟩
  case round =>
    obtain ⟨k, hk, rfl, ho, hlw⟩ := hrel
    have O := Lib.hid ho
    have HW : Hid (Later w wr) := Lib.hid (((Later.refl _).alloc _).trans hlw)
    have HW1 := Lib.hid hlw
    obtain ⟨c0, c1, _, _⟩ := Fr.o2 (fr_alloc (X := w) (l := [.int .i64 x, .int .i64 z]) hlw)
    have hz : w.heap.size + 1 ≤ wr.heap.size := by have := hlw.size; rw [World.size_alloc] at this; exact this
    have hz0 : w.heap.size < wr.heap.size := by omega
    have hlen := onI_len F x z k
    clear ho hlw
    by_cases hlt : k < m
    · obtain ⟨b', off', rfl, hc⟩ := (sl_lat HF.out HW.out).at k hlt
      by_cases h1 : x ≤ gx F k
      · by_cases h2 : gx F k ≤ z
        · have HD : Hid (onI F x z (k + 1) = onI F x z k ++ [(k : Int)]) := Lib.hid (by rw [onI_succ, if_pos ⟨h1, h2⟩])
          go_wp2_with (at_builtin; go_must (refine app1 rfl _ _ rfl (w.heap.size + 1) _ _ _ _ _ O.out rfl rfl ⟨by omega, by omega⟩ (by omega) hz ?_; intro v' w5 ho hg; obtain ⟨W5, k5, z5⟩ := later_grown HW.out O.out hg; have O5 := Lib.hid ho; have W51 : Hid (Later (w.alloc (.cells #[.int .i64 x, .int .i64 z] 91)) w5) := Lib.hid (Below.grown HW1.out hg HW1.out.size (fun j e => by have := (O.out.lt j e).1; rw [World.size_alloc]; omega)); clear ho hg k5))
          go_roundw
          case rel => exact ⟨k + 1, by omega, by go_num, by rw [HD.out]; exact O5.out, W51.out⟩
          case measure => simp [intOf]; omega
        · have HD : Hid (onI F x z (k + 1) = onI F x z k) := Lib.hid (by rw [onI_succ, if_neg (by omega)])
          go_wp2
          go_roundw
          case rel => exact ⟨k + 1, by omega, by go_num, by rw [HD.out]; exact O.out, HW1.out⟩
          case measure => simp [intOf]; omega
      · have HD : Hid (onI F x z (k + 1) = onI F x z k) := Lib.hid (by rw [onI_succ, if_neg (by omega)])
        go_wp2
        go_roundw
        case rel => exact ⟨k + 1, by omega, by go_num, by rw [HD.out]; exact O.out, HW1.out⟩
        case measure => simp [intOf]; omega
    · obtain rfl : k = m := by omega
      go_wp2
      go_ret
      exact ⟨_, rfl, O.out.mono (Nat.le_succ _), HW.out⟩
end Go.Proofs.Ytehinlecppbjeaa
namespace Go.Proofs.Ytehinlecppbjeaa
open Go.RowKit
set_option maxHeartbeats 2000000
set_option linter.unusedVariables false
set_option linter.unusedSimpArgs false
theorem later_gO {w w' : World} (h : Later w w') (row : Option Nat) : w.grownBy w' row := ⟨h.os, h.tape, h.output, h.size, fun k hk _ => h.block k hk⟩
theorem Own.lat {w w' : World} {base : Nat} {v : Value} {l : List Int} (h : Own w base v l) (k : Later w w') : Own w' base v l := h.kept (later_gO k none) (fun _ e => by cases e)
/-- what hands back a list of its own and a code leaves -/
def GivesC (w : World) (l : List Int) (c : Int) (e : Ending) (w' : World) : Prop := ∃ v, e = .returned (.tuple #[v, .int .i64 c]) ∧ Own w' w.heap.size v l ∧ Later w w'
/-- a slice value that reads as a list -/
def Rd (w : World) (v : Value) (l : List Int) : Prop := ∃ a cap, v = .slice a l.length cap ∧ Sl w a l.length l ∧ (a = none → cap = 0)
theorem Rd.later {w w' : World} {v : Value} {l : List Int} (h : Rd w v l) (k : Later w w') : Rd w' v l := by
  obtain ⟨a, cap, e, hs, h0⟩ := h
  exact ⟨a, cap, e, sl_lat hs k, h0⟩
theorem Own.rd {w : World} {base : Nat} {v : Value} {l : List Int} (h : Own w base v l) : Rd w v l := by
  obtain ⟨h1, h2⟩ := h
  have h0 := h1
  rcases h1.2 with ⟨rfl, h3⟩ | ⟨g, cap, cur, rfl, hb, hg, hnc, hcm, _⟩
  · exact ⟨none, 0, by rw [h3], ⟨rfl, by omega, fun k hk => by omega, h2⟩, fun _ => rfl⟩
  · unfold maxLen at hcm
    exact ⟨some ⟨g, 0, none⟩, cap, rfl, sl_of_row h0 rfl (by omega) h2, fun e => by cases e⟩
set_option maxRecDepth 100000 in
theorem i_joined (g : Nat) (v1 v2 : Value) (l1 l2 : List Int) (w : World) (c0 : w.cell? ⟨g, 0, none⟩ = some v1) (c1 : w.cell? ⟨g, 1, none⟩ = some v2) (r1 : Rd w v1 l1) (r2 : Rd w v2 l2) (h1 : l1.length ≤ 1000) (h2 : l2.length ≤ 1000) :
    Calls Try.prog 99 #[.slice (some ⟨g, 0, none⟩) 2 2] w (Gives w (l1 ++ l2)) := by
  have HC0 := Lib.hid c0; have HC1 := Lib.hid c1
  obtain ⟨a1, k1, rfl, s1, z1⟩ := r1
  obtain ⟨a2, k2, rfl, s2, z2⟩ := r2
  have S1 := Lib.hid s1; have S2 := Lib.hid s2
  have Z1 := Lib.hid z1; have Z2 := Lib.hid z2
  have hg := cell_lt c0
  clear c0 c1 s1 s2 z1 z2
  go_enter Try.func99, Try.ntmps99
  go_wp2
  go_loopw [3, 8] (fun v i wr => ∃ k : Nat, k ≤ 2 ∧ i = .int .i64 k ∧ Own wr w.heap.size v (if k = 0 then [] else if k = 1 then l1 else l1 ++ l2) ∧ Later w wr) (fun _ i _ => 2 - (intOf i).toNat)
  case atStart => exact ⟨0, by omega, rfl, own_none _ _, Later.refl _⟩
  case round =>
    obtain ⟨k, hk, rfl, ho, hlw⟩ := hrel
    have O := Lib.hid ho
    have HW := Lib.hid hlw
    have hz := hlw.size
    clear ho
    have hk3 : k = 0 ∨ k = 1 ∨ k = 2 := by omega
    rcases hk3 with rfl | rfl | rfl
    · have c0 : wr.cell? ⟨g, 0, none⟩ = some (.slice a1 l1.length k1) := by rw [hlw.cell (p := ⟨g, 0, none⟩) hg]; exact HC0.out
      have O0 : Hid (Own wr w.heap.size _ []) := Lib.hid O.out
      clear hlw O hk
      go_wp2_with (at_builtin; go_must (refine appAll _ _ rfl w.heap.size _ _ _ l1 a1 k1 O0.out (sl_lat S1.out HW.out) Z1.out rfl rfl rfl (by simp; omega) (by omega) ?_; intro v' w5 ho hg5; have O5 : Hid (Own w5 w.heap.size v' l1) := Lib.hid (by simpa using ho); have W5 : Hid (Later w w5) := Lib.hid (Below.grown HW.out hg5 HW.out.size (fun j e => (O0.out.lt j e).1)); clear ho hg5))
      go_roundw
      case rel => exact ⟨1, by omega, by go_num, O5.out, W5.out⟩
      case measure => simp [intOf]
    · have c1 : wr.cell? ⟨g, 1, none⟩ = some (.slice a2 l2.length k2) := by rw [hlw.cell (p := ⟨g, 1, none⟩) hg]; exact HC1.out
      have O0 : Hid (Own wr w.heap.size _ l1) := Lib.hid O.out
      clear hlw O hk
      go_wp2_with (at_builtin; go_must (refine appAll _ _ rfl w.heap.size _ _ _ l2 a2 k2 O0.out (sl_lat S2.out HW.out) Z2.out rfl rfl rfl (by omega) (by omega) ?_; intro v' w5 ho hg5; have O5 := Lib.hid ho; have W5 : Hid (Later w w5) := Lib.hid (Below.grown HW.out hg5 HW.out.size (fun j e => (O0.out.lt j e).1)); clear ho hg5))
      go_roundw
      case rel => exact ⟨2, by omega, by go_num, O5.out, W5.out⟩
      case measure => simp [intOf]
    · have O0 : Hid (Own wr w.heap.size _ (l1 ++ l2)) := Lib.hid O.out
      clear hlw O hk
      go_wp2
      go_ret
      exact ⟨_, rfl, O0.out, HW.out⟩
/-- at a list that has just been laid -/
theorem i_joined_at (W : World) (T : TypeId) (v1 v2 : Value) (l1 l2 : List Int) (r1 : Rd (W.alloc (.cells #[v1, v2] T)) v1 l1) (r2 : Rd (W.alloc (.cells #[v1, v2] T)) v2 l2) (h1 : l1.length ≤ 1000) (h2 : l2.length ≤ 1000) :
    Calls Try.prog 99 #[.slice (some ⟨W.heap.size, 0, none⟩) 2 2] (W.alloc (.cells #[v1, v2] T)) (Gives (W.alloc (.cells #[v1, v2] T)) (l1 ++ l2)) :=
  i_joined W.heap.size v1 v2 l1 l2 _ (by rw [cell_of_row _ _ 0 _ T (0, 0) (heap_alloc_new W _)]; rfl) (by rw [cell_of_row _ _ 1 _ T (0, 0) (heap_alloc_new W _)]; rfl) r1 r2 h1 h2
end Go.Proofs.Ytehinlecppbjeaa
namespace Go.Proofs.Ytehinlecppbjeaa
open Go.RowKit
set_option maxHeartbeats 4000000
set_option linter.unusedVariables false
set_option linter.unusedSimpArgs false
/-- a drawn layout, a list, two numbers -/
def DrawnLS (w : World) (e : Ending) (w' : World) : Prop :=
  ∃ (a' : Option Addr) (n cap' : Nat) (L : List Sg) (A : Option Addr) (m capF : Nat) (F : List Int) (p q : Int), e = .returned (.tuple #[.agg #[.slice a' n cap'], .slice A m capF, .int .i64 p, .int .i64 q]) ∧ Sgs w' a' n L ∧ n ≤ cap' ∧ Sl w' A m F ∧ m ≤ capF ∧ m ≤ 1000 ∧ InR p ∧ InR q ∧ Below w.heap.size w w'
theorem Sl.keptB {w w' : World} {A : Option Addr} {n B : Nat} {l : List Int} (h : Sl w A n l) (gr : w.grownBy w' (some B)) (hne : ∀ x, A = some x → x.block ≠ B) : Sl w' A n l := by
  obtain ⟨h1, h2, h3, h4⟩ := h
  refine ⟨h1, h2, fun k hk => ?_, h4⟩
  obtain ⟨b, off, rfl, hc⟩ := h3 k hk
  exact ⟨b, off, rfl, gr.cell hc (by have := hne _ rfl; simpa using this)⟩
theorem dl_le {l : List (Nat × Nat × Value)} {g : Nat} {a' : Option Addr} {n : Nat} {L : List Sg} {B : Nat} {a : Option Addr} {len cap : Nat} {w0 W W1 : World} {r : Option Nat} (h : DL l g a' n L B a len cap w0 W) (gr : W.grownBy W1 r) : w0.heap.size ≤ W.heap.size := h.1.le
set_option maxRecDepth 100000 in
theorem s_DrawSensorsCovered (a : Option Addr) (len cap : Nat) (w : World) (hs : Bytes w a len) :
    Calls Try.prog 44 #[.slice a len cap] w (DrawnLS w) := by
  have HS := Lib.hid hs
  clear hs
  go_enter Try.func44, Try.ntmps44
  go_wp2_with fail
  refine (s_From a len cap _ (HS.out.later ((Below.refl _ _).alloc (Nat.le_refl _) _))).mono ?_
  rintro e w1 ⟨rfl, src, lt, bel⟩
  rw [World.size_alloc] at src lt bel ⊢
  have S1 := Lib.hid src
  have BL := Lib.hid bel
  clear src bel
  go_wp2_with fail
  refine (s_Draw (w.heap.size + 1) a len cap _ S1.out).mono ?_
  rintro e w2 ⟨a', n, cap', L, rfl, hl, hcap, h26, hsm, hbl, src, gr⟩
  obtain ⟨d2, b1, rc, rf, hz1⟩ := dl_begin S1.out BL.out hl hbl src gr
  have D2 := Lib.hid d2
  have B1 := Lib.hid b1
  have RC := Lib.hid rc; have RF := Lib.hid rf
  have SM : Hid (∀ x ∈ L, SmW x) := Lib.hid (fun x hx => (hsm x hx).w)
  have hz2 := gr.size
  have hn1 : w2.heap.size ≠ w.heap.size := by omega
  have hn2 : w.heap.size ≠ w2.heap.size := by omega
  have D3 := Lib.hid (D2.out.box (.slice a' n cap') 26)
  clear hl hbl src gr d2 b1 rc rf hsm lt S1 BL D2
  go_wp2_with fail
  go_region_held3 (fun w' => w'.cell? ⟨w2.heap.size, 0, none⟩ = some (.slice a' n cap')) (first | (refine DL.c1 (l := []) (g := w.heap.size) (a' := a') (n := n) (L := L) (B := w.heap.size + 1) (a := a) (len := len) (cap := cap) (w0 := w1) ?_; ((repeat (first | (with_reducible exact Hid.out (by assumption)) | (with_reducible refine DL.alloc ?_ _) | (with_reducible refine DL.drewN ?_ _) | (with_reducible refine DL.drew ?_) | (with_reducible refine DL.later ?_ (Hid.out (by assumption))))); done)) | (rw [World.cell?_setCell_other _ _ _ _ (by simp [hn1, hn2])]; refine DL.c1 (l := []) (g := w.heap.size) (a' := a') (n := n) (L := L) (B := w.heap.size + 1) (a := a) (len := len) (cap := cap) (w0 := w1) ?_; ((repeat (first | (with_reducible exact Hid.out (by assumption)) | (with_reducible refine DL.alloc ?_ _) | (with_reducible refine DL.drewN ?_ _) | (with_reducible refine DL.drew ?_) | (with_reducible refine DL.later ?_ (Hid.out (by assumption))))); done)))
    (first
      | (go_at_call 96; refine (s_DrawSensors5 (w.heap.size + 1) a len cap a' n cap' L _ (show DL [(w2.heap.size, 0, .slice a' n cap')] w.heap.size a' n L (w.heap.size + 1) a len cap w1 _ from (by repeat (first | (with_reducible exact Hid.out (by assumption)) | (with_reducible refine DL.alloc ?_ _) | (with_reducible refine DL.drewN ?_ _) | (with_reducible refine DL.drew ?_) | (with_reducible refine DL.later ?_ (Hid.out (by assumption)))))).src (show DL [(w2.heap.size, 0, .slice a' n cap')] w.heap.size a' n L (w.heap.size + 1) a len cap w1 _ from (by repeat (first | (with_reducible exact Hid.out (by assumption)) | (with_reducible refine DL.alloc ?_ _) | (with_reducible refine DL.drewN ?_ _) | (with_reducible refine DL.drew ?_) | (with_reducible refine DL.later ?_ (Hid.out (by assumption)))))).sg h26 SM.out).mono ?_; rintro e w5 ⟨v, F, rfl, ho, hm, src, gr⟩; have hz5 := dl_le (show DL [(w2.heap.size, 0, .slice a' n cap')] w.heap.size a' n L (w.heap.size + 1) a len cap w1 _ from (by repeat (first | (with_reducible exact Hid.out (by assumption)) | (with_reducible refine DL.alloc ?_ _) | (with_reducible refine DL.drewN ?_ _) | (with_reducible refine DL.drew ?_) | (with_reducible refine DL.later ?_ (Hid.out (by assumption)))))) gr; have O5 := Lib.hid ho; have D5 := Lib.hid (DL.call (show DL [(w2.heap.size, 0, .slice a' n cap')] w.heap.size a' n L (w.heap.size + 1) a len cap w1 _ from (by repeat (first | (with_reducible exact Hid.out (by assumption)) | (with_reducible refine DL.alloc ?_ _) | (with_reducible refine DL.drewN ?_ _) | (with_reducible refine DL.drew ?_) | (with_reducible refine DL.later ?_ (Hid.out (by assumption)))))) src gr); have rc5 := D5.out.old RC.out (by omega); have rf5 := D5.out.oldF RC.out RF.out (by omega); clear src gr ho)
      | (go_at_call 68; refine (s_DrawPositionW (w.heap.size + 1) a len cap a' n cap' L _ (show DL [(w2.heap.size, 0, .slice a' n cap')] w.heap.size a' n L (w.heap.size + 1) a len cap w1 _ from (by repeat (first | (with_reducible exact Hid.out (by assumption)) | (with_reducible refine DL.alloc ?_ _) | (with_reducible refine DL.drewN ?_ _) | (with_reducible refine DL.drew ?_) | (with_reducible refine DL.later ?_ (Hid.out (by assumption)))))).src (show DL [(w2.heap.size, 0, .slice a' n cap')] w.heap.size a' n L (w.heap.size + 1) a len cap w1 _ from (by repeat (first | (with_reducible exact Hid.out (by assumption)) | (with_reducible refine DL.alloc ?_ _) | (with_reducible refine DL.drewN ?_ _) | (with_reducible refine DL.drew ?_) | (with_reducible refine DL.later ?_ (Hid.out (by assumption)))))).sg h26 SM.out).mono ?_; rintro e w6 ⟨p, rfl, hp, src, gr⟩; have Hp := Lib.hid hp; have O6 := Lib.hid ((O5.out.lat (show Later w5 _ from (by repeat (first | (with_reducible exact Later.refl _) | (with_reducible exact Hid.out (by assumption)) | (with_reducible refine Later.alloc ?_ _) | (with_reducible refine Later.setCell ?_ (by simp; omega) _) | (with_reducible refine Later.setCell ?_ (by simp) _) | (with_reducible refine Later.drewN ?_ _) | (with_reducible refine Later.drew ?_) | (with_reducible refine Later.trans ?_ (Hid.out (by assumption))))))).kept gr (fun k e => by have := Option.some.inj e; omega)); have D6 := Lib.hid (DL.call (show DL [(w2.heap.size, 0, .slice a' n cap')] w.heap.size a' n L (w.heap.size + 1) a len cap w1 _ from (by repeat (first | (with_reducible exact Hid.out (by assumption)) | (with_reducible refine DL.alloc ?_ _) | (with_reducible refine DL.drewN ?_ _) | (with_reducible refine DL.drew ?_) | (with_reducible refine DL.later ?_ (Hid.out (by assumption)))))) src gr); have rc6 := D6.out.old RC.out (by omega); have rf6 := D6.out.oldF RC.out RF.out (by omega); clear src gr hp)
      | (go_at_call 74; refine (s_DrawLength5 (w.heap.size + 1) a len cap a' n cap' L _ (show DL [(w2.heap.size, 0, .slice a' n cap')] w.heap.size a' n L (w.heap.size + 1) a len cap w1 _ from (by repeat (first | (with_reducible exact Hid.out (by assumption)) | (with_reducible refine DL.alloc ?_ _) | (with_reducible refine DL.drewN ?_ _) | (with_reducible refine DL.drew ?_) | (with_reducible refine DL.later ?_ (Hid.out (by assumption)))))).src (show DL [(w2.heap.size, 0, .slice a' n cap')] w.heap.size a' n L (w.heap.size + 1) a len cap w1 _ from (by repeat (first | (with_reducible exact Hid.out (by assumption)) | (with_reducible refine DL.alloc ?_ _) | (with_reducible refine DL.drewN ?_ _) | (with_reducible refine DL.drew ?_) | (with_reducible refine DL.later ?_ (Hid.out (by assumption)))))).sg h26 SM.out (show DL [(w2.heap.size, 0, .slice a' n cap')] w.heap.size a' n L (w.heap.size + 1) a len cap w1 _ from (by repeat (first | (with_reducible exact Hid.out (by assumption)) | (with_reducible refine DL.alloc ?_ _) | (with_reducible refine DL.drewN ?_ _) | (with_reducible refine DL.drew ?_) | (with_reducible refine DL.later ?_ (Hid.out (by assumption)))))).nB).mono ?_; rintro e w7 ⟨q, rfl, hq, src, gr⟩; have Hq : Hid (InR q) := Lib.hid ⟨by omega, by omega⟩; have O7 := Lib.hid ((O6.out.lat (show Later w6 _ from (by repeat (first | (with_reducible exact Later.refl _) | (with_reducible exact Hid.out (by assumption)) | (with_reducible refine Later.alloc ?_ _) | (with_reducible refine Later.setCell ?_ (by simp; omega) _) | (with_reducible refine Later.setCell ?_ (by simp) _) | (with_reducible refine Later.drewN ?_ _) | (with_reducible refine Later.drew ?_) | (with_reducible refine Later.trans ?_ (Hid.out (by assumption))))))).kept gr (fun k e => by have := Option.some.inj e; omega)); have D7 := Lib.hid (DL.call (show DL [(w2.heap.size, 0, .slice a' n cap')] w.heap.size a' n L (w.heap.size + 1) a len cap w1 _ from (by repeat (first | (with_reducible exact Hid.out (by assumption)) | (with_reducible refine DL.alloc ?_ _) | (with_reducible refine DL.drewN ?_ _) | (with_reducible refine DL.drew ?_) | (with_reducible refine DL.later ?_ (Hid.out (by assumption)))))) src gr); have rc7 := D7.out.old RC.out (by omega); have rf7 := D7.out.oldF RC.out RF.out (by omega); clear src gr hq))
  all_goals
    obtain ⟨A, capF, rfl, hsl, hcF, hbA⟩ := O7.out.rows
    have HSL := Lib.hid hsl
    have HA : Hid (∀ x, A = some x → x.block ≠ w.heap.size) := Lib.hid (fun x hx => by have h9 := hbA x hx; omega)
    clear hsl hbA
    go_wp2_with fail
    refine bodyPost_ret (v := .tuple #[.agg #[.slice a' n cap'], .slice A F.length capF, .int .i64 p, .int .i64 q]) (by simp [results, Try.results44, go_sem, *]) rfl ⟨a', n, cap', L, A, F.length, capF, F, p, q, rfl, D7.out.set _ _, hcap, HSL.out.far _ _ _ HA.out, hcF, hm, Hp.out, Hq.out, (dl_below D7.out B1.out).setCell (Nat.le_refl _) _⟩
set_option maxRecDepth 100000 in
theorem s_DrawSensorsPassed (a : Option Addr) (len cap : Nat) (w : World) (hs : Bytes w a len) :
    Calls Try.prog 41 #[.slice a len cap] w (DrawnLS w) := by
  have HS := Lib.hid hs
  clear hs
  go_enter Try.func41, Try.ntmps41
  go_wp2_with fail
  refine (s_From a len cap _ (HS.out.later ((Below.refl _ _).alloc (Nat.le_refl _) _))).mono ?_
  rintro e w1 ⟨rfl, src, lt, bel⟩
  rw [World.size_alloc] at src lt bel ⊢
  have S1 := Lib.hid src
  have BL := Lib.hid bel
  clear src bel
  go_wp2_with fail
  refine (s_Draw (w.heap.size + 1) a len cap _ S1.out).mono ?_
  rintro e w2 ⟨a', n, cap', L, rfl, hl, hcap, h26, hsm, hbl, src, gr⟩
  obtain ⟨d2, b1, rc, rf, hz1⟩ := dl_begin S1.out BL.out hl hbl src gr
  have D2 := Lib.hid d2
  have B1 := Lib.hid b1
  have RC := Lib.hid rc; have RF := Lib.hid rf
  have SM : Hid (∀ x ∈ L, SmW x) := Lib.hid (fun x hx => (hsm x hx).w)
  have hz2 := gr.size
  have hn1 : w2.heap.size ≠ w.heap.size := by omega
  have hn2 : w.heap.size ≠ w2.heap.size := by omega
  have D3 := Lib.hid (D2.out.box (.slice a' n cap') 26)
  clear hl hbl src gr d2 b1 rc rf hsm lt S1 BL D2
  go_wp2_with fail
  refine (s_DrawSensors5 (w.heap.size + 1) a len cap a' n cap' L _ D3.out.src D3.out.sg h26 SM.out).mono ?_
  rintro e w4 ⟨v, F, rfl, ho, hm, src, gr⟩
  have hz3 := D3.out.1.le
  obtain ⟨A, capF, rfl, hsl, hcF, hbA⟩ := ho.rows
  have O4 := Lib.hid hsl
  have HA : Hid (∀ x, A = some x → x.block ≠ w.heap.size) := Lib.hid (fun x hx => by have h9 := hbA x hx; omega)
  have HB : Hid (∀ x, A = some x → x.block ≠ w.heap.size + 1) := Lib.hid (fun x hx => by have h9 := hbA x hx; omega)
  have D4 := Lib.hid (D3.out.call src gr); have c4 := D4.out.c1; have rc4 := D4.out.old RC.out (by omega); have rf4 := D4.out.oldF RC.out RF.out (by omega)
  clear src gr ho hsl hbA hz3
  go_wp2_with fail
  refine (s_DrawPositionW (w.heap.size + 1) a len cap a' n cap' L _ D4.out.src D4.out.sg h26 SM.out).mono ?_
  rintro e w5 ⟨p, rfl, hp, src, gr⟩
  have Hp := Lib.hid hp
  have O5 := Lib.hid (O4.out.keptB gr HB.out)
  have D5 := Lib.hid (D4.out.call src gr); have c5 := D5.out.c1; have rc5 := D5.out.old RC.out (by omega); have rf5 := D5.out.oldF RC.out RF.out (by omega)
  clear hp src gr c4 rc4 rf4
  by_cases hlen : 0 < F.length
  · go_wp2_with fail
    refine (s_Next (w.heap.size + 1) a len cap 4 _ D5.out.src (by omega) (by omega)).mono ?_
    rintro e w6 ⟨c, rfl, c0, c1, c2, src, gr⟩
    have O6 := Lib.hid (O5.out.keptB gr HB.out)
    have D6 := Lib.hid (D5.out.call src gr); have c6 := D6.out.c1; have rc6 := D6.out.old RC.out (by omega); have rf6 := D6.out.oldF RC.out RF.out (by omega)
    clear c1 c2 src gr c5 rc5 rf5
    by_cases k0 : c = 0
    · subst k0
      go_wp2_with fail
      refine (s_Next (w.heap.size + 1) a len cap F.length _ D6.out.src (by omega) (by omega)).mono ?_
      rintro e w7 ⟨v, rfl, v0, v1, v2, src, gr⟩
      have hv : v < F.length := by
        by_cases h : (1 : Int) < F.length
        · exact v1 h
        · have := v2 (by omega); omega
      obtain ⟨vn, rfl⟩ := Int.eq_ofNat_of_zero_le v0
      have hvn : vn < F.length := by omega
      have O7 := Lib.hid (O6.out.keptB gr HB.out)
      have D7 := Lib.hid (D6.out.call src gr); have c7 := D7.out.c1; have rc7 := D7.out.old RC.out (by omega); have rf7 := D7.out.oldF RC.out RF.out (by omega)
      obtain ⟨bA, oA, rfl, cA⟩ := O7.out.at vn hvn
      have Hg : Hid (InR (gx F vn)) := Lib.hid (O7.out.rng vn hvn)
      clear v1 v2 src gr c6 rc6 rf6
      go_wp2_with fail
      clear cA
      go_region_held3 (fun w' => w'.cell? ⟨w2.heap.size, 0, none⟩ = some (.slice a' n cap')) (first | (refine DL.c1 (l := []) (g := w.heap.size) (a' := a') (n := n) (L := L) (B := w.heap.size + 1) (a := a) (len := len) (cap := cap) (w0 := w1) ?_; ((repeat (first | (with_reducible exact Hid.out (by assumption)) | (with_reducible refine DL.alloc ?_ _) | (with_reducible refine DL.drewN ?_ _) | (with_reducible refine DL.drew ?_) | (with_reducible refine DL.later ?_ (Hid.out (by assumption))))); done)) | (rw [World.cell?_setCell_other _ _ _ _ (by simp [hn1, hn2])]; refine DL.c1 (l := []) (g := w.heap.size) (a' := a') (n := n) (L := L) (B := w.heap.size + 1) (a := a) (len := len) (cap := cap) (w0 := w1) ?_; ((repeat (first | (with_reducible exact Hid.out (by assumption)) | (with_reducible refine DL.alloc ?_ _) | (with_reducible refine DL.drewN ?_ _) | (with_reducible refine DL.drew ?_) | (with_reducible refine DL.later ?_ (Hid.out (by assumption))))); done)))
        ((go_at_call 69; refine (s_DrawDistance5 (w.heap.size + 1) a len cap a' n cap' L _ (show DL [(w2.heap.size, 0, .slice a' n cap')] w.heap.size a' n L (w.heap.size + 1) a len cap w1 _ from (by repeat (first | (with_reducible exact Hid.out (by assumption)) | (with_reducible refine DL.alloc ?_ _) | (with_reducible refine DL.drewN ?_ _) | (with_reducible refine DL.drew ?_) | (with_reducible refine DL.later ?_ (Hid.out (by assumption)))))).src (show DL [(w2.heap.size, 0, .slice a' n cap')] w.heap.size a' n L (w.heap.size + 1) a len cap w1 _ from (by repeat (first | (with_reducible exact Hid.out (by assumption)) | (with_reducible refine DL.alloc ?_ _) | (with_reducible refine DL.drewN ?_ _) | (with_reducible refine DL.drew ?_) | (with_reducible refine DL.later ?_ (Hid.out (by assumption)))))).sg h26 SM.out).mono ?_; rintro e w9 ⟨q, rfl, hq, src, gr⟩; have Hq := Lib.hid hq; have O9 := Lib.hid ((sl_lat O7.out (show Later w7 _ from (by repeat (first | (with_reducible exact Later.refl _) | (with_reducible exact Hid.out (by assumption)) | (with_reducible refine Later.alloc ?_ _) | (with_reducible refine Later.setCell ?_ (by simp; omega) _) | (with_reducible refine Later.setCell ?_ (by simp) _) | (with_reducible refine Later.drewN ?_ _) | (with_reducible refine Later.drew ?_) | (with_reducible refine Later.trans ?_ (Hid.out (by assumption))))))).keptB gr HB.out); have D9 := Lib.hid (DL.call (show DL [(w2.heap.size, 0, .slice a' n cap')] w.heap.size a' n L (w.heap.size + 1) a len cap w1 _ from (by repeat (first | (with_reducible exact Hid.out (by assumption)) | (with_reducible refine DL.alloc ?_ _) | (with_reducible refine DL.drewN ?_ _) | (with_reducible refine DL.drew ?_) | (with_reducible refine DL.later ?_ (Hid.out (by assumption)))))) src gr); have rc9 := D9.out.old RC.out (by omega); have rf9 := D9.out.oldF RC.out RF.out (by omega); clear src gr hq))
      all_goals
        go_wp2_with fail
        refine bodyPost_ret (v := .tuple #[.agg #[.slice a' n cap'], .slice (some ⟨bA, oA, none⟩) F.length capF, .int .i64 (gx F vn), .int .i64 q]) (by simp [results, Try.results41, go_sem, *]) rfl ⟨a', n, cap', L, some ⟨bA, oA, none⟩, F.length, capF, F, gx F vn, q, rfl, D9.out.set _ _, hcap, O9.out.far _ _ _ HA.out, hcF, hm, Hg.out, Hq.out, (dl_below D9.out B1.out).setCell (Nat.le_refl _) _⟩
    · have e0 : (c == 0) = false := by simpa using k0
      clear k0
      go_wp2_with fail
      go_region_held3 (fun w' => w'.cell? ⟨w2.heap.size, 0, none⟩ = some (.slice a' n cap')) (first | (refine DL.c1 (l := []) (g := w.heap.size) (a' := a') (n := n) (L := L) (B := w.heap.size + 1) (a := a) (len := len) (cap := cap) (w0 := w1) ?_; ((repeat (first | (with_reducible exact Hid.out (by assumption)) | (with_reducible refine DL.alloc ?_ _) | (with_reducible refine DL.drewN ?_ _) | (with_reducible refine DL.drew ?_) | (with_reducible refine DL.later ?_ (Hid.out (by assumption))))); done)) | (rw [World.cell?_setCell_other _ _ _ _ (by simp [hn1, hn2])]; refine DL.c1 (l := []) (g := w.heap.size) (a' := a') (n := n) (L := L) (B := w.heap.size + 1) (a := a) (len := len) (cap := cap) (w0 := w1) ?_; ((repeat (first | (with_reducible exact Hid.out (by assumption)) | (with_reducible refine DL.alloc ?_ _) | (with_reducible refine DL.drewN ?_ _) | (with_reducible refine DL.drew ?_) | (with_reducible refine DL.later ?_ (Hid.out (by assumption))))); done)))
        ((go_at_call 69; refine (s_DrawDistance5 (w.heap.size + 1) a len cap a' n cap' L _ (show DL [(w2.heap.size, 0, .slice a' n cap')] w.heap.size a' n L (w.heap.size + 1) a len cap w1 _ from (by repeat (first | (with_reducible exact Hid.out (by assumption)) | (with_reducible refine DL.alloc ?_ _) | (with_reducible refine DL.drewN ?_ _) | (with_reducible refine DL.drew ?_) | (with_reducible refine DL.later ?_ (Hid.out (by assumption)))))).src (show DL [(w2.heap.size, 0, .slice a' n cap')] w.heap.size a' n L (w.heap.size + 1) a len cap w1 _ from (by repeat (first | (with_reducible exact Hid.out (by assumption)) | (with_reducible refine DL.alloc ?_ _) | (with_reducible refine DL.drewN ?_ _) | (with_reducible refine DL.drew ?_) | (with_reducible refine DL.later ?_ (Hid.out (by assumption)))))).sg h26 SM.out).mono ?_; rintro e w9 ⟨q, rfl, hq, src, gr⟩; have Hq := Lib.hid hq; have O9 := Lib.hid ((sl_lat O6.out (show Later w6 _ from (by repeat (first | (with_reducible exact Later.refl _) | (with_reducible exact Hid.out (by assumption)) | (with_reducible refine Later.alloc ?_ _) | (with_reducible refine Later.setCell ?_ (by simp; omega) _) | (with_reducible refine Later.setCell ?_ (by simp) _) | (with_reducible refine Later.drewN ?_ _) | (with_reducible refine Later.drew ?_) | (with_reducible refine Later.trans ?_ (Hid.out (by assumption))))))).keptB gr HB.out); have D9 := Lib.hid (DL.call (show DL [(w2.heap.size, 0, .slice a' n cap')] w.heap.size a' n L (w.heap.size + 1) a len cap w1 _ from (by repeat (first | (with_reducible exact Hid.out (by assumption)) | (with_reducible refine DL.alloc ?_ _) | (with_reducible refine DL.drewN ?_ _) | (with_reducible refine DL.drew ?_) | (with_reducible refine DL.later ?_ (Hid.out (by assumption)))))) src gr); have rc9 := D9.out.old RC.out (by omega); have rf9 := D9.out.oldF RC.out RF.out (by omega); clear src gr hq))
      all_goals
        go_wp2_with fail
        refine bodyPost_ret (v := .tuple #[.agg #[.slice a' n cap'], .slice (A) F.length capF, .int .i64 (p), .int .i64 q]) (by simp [results, Try.results41, go_sem, *]) rfl ⟨a', n, cap', L, A, F.length, capF, F, p, q, rfl, D9.out.set _ _, hcap, O9.out.far _ _ _ HA.out, hcF, hm, Hp.out, Hq.out, (dl_below D9.out B1.out).setCell (Nat.le_refl _) _⟩
  · go_wp2_with fail
    go_region_held3 (fun w' => w'.cell? ⟨w2.heap.size, 0, none⟩ = some (.slice a' n cap')) (first | (refine DL.c1 (l := []) (g := w.heap.size) (a' := a') (n := n) (L := L) (B := w.heap.size + 1) (a := a) (len := len) (cap := cap) (w0 := w1) ?_; ((repeat (first | (with_reducible exact Hid.out (by assumption)) | (with_reducible refine DL.alloc ?_ _) | (with_reducible refine DL.drewN ?_ _) | (with_reducible refine DL.drew ?_) | (with_reducible refine DL.later ?_ (Hid.out (by assumption))))); done)) | (rw [World.cell?_setCell_other _ _ _ _ (by simp [hn1, hn2])]; refine DL.c1 (l := []) (g := w.heap.size) (a' := a') (n := n) (L := L) (B := w.heap.size + 1) (a := a) (len := len) (cap := cap) (w0 := w1) ?_; ((repeat (first | (with_reducible exact Hid.out (by assumption)) | (with_reducible refine DL.alloc ?_ _) | (with_reducible refine DL.drewN ?_ _) | (with_reducible refine DL.drew ?_) | (with_reducible refine DL.later ?_ (Hid.out (by assumption))))); done)))
      ((go_at_call 69; refine (s_DrawDistance5 (w.heap.size + 1) a len cap a' n cap' L _ (show DL [(w2.heap.size, 0, .slice a' n cap')] w.heap.size a' n L (w.heap.size + 1) a len cap w1 _ from (by repeat (first | (with_reducible exact Hid.out (by assumption)) | (with_reducible refine DL.alloc ?_ _) | (with_reducible refine DL.drewN ?_ _) | (with_reducible refine DL.drew ?_) | (with_reducible refine DL.later ?_ (Hid.out (by assumption)))))).src (show DL [(w2.heap.size, 0, .slice a' n cap')] w.heap.size a' n L (w.heap.size + 1) a len cap w1 _ from (by repeat (first | (with_reducible exact Hid.out (by assumption)) | (with_reducible refine DL.alloc ?_ _) | (with_reducible refine DL.drewN ?_ _) | (with_reducible refine DL.drew ?_) | (with_reducible refine DL.later ?_ (Hid.out (by assumption)))))).sg h26 SM.out).mono ?_; rintro e w9 ⟨q, rfl, hq, src, gr⟩; have Hq := Lib.hid hq; have O9 := Lib.hid ((sl_lat O5.out (show Later w5 _ from (by repeat (first | (with_reducible exact Later.refl _) | (with_reducible exact Hid.out (by assumption)) | (with_reducible refine Later.alloc ?_ _) | (with_reducible refine Later.setCell ?_ (by simp; omega) _) | (with_reducible refine Later.setCell ?_ (by simp) _) | (with_reducible refine Later.drewN ?_ _) | (with_reducible refine Later.drew ?_) | (with_reducible refine Later.trans ?_ (Hid.out (by assumption))))))).keptB gr HB.out); have D9 := Lib.hid (DL.call (show DL [(w2.heap.size, 0, .slice a' n cap')] w.heap.size a' n L (w.heap.size + 1) a len cap w1 _ from (by repeat (first | (with_reducible exact Hid.out (by assumption)) | (with_reducible refine DL.alloc ?_ _) | (with_reducible refine DL.drewN ?_ _) | (with_reducible refine DL.drew ?_) | (with_reducible refine DL.later ?_ (Hid.out (by assumption)))))) src gr); have rc9 := D9.out.old RC.out (by omega); have rf9 := D9.out.oldF RC.out RF.out (by omega); clear src gr hq))
    all_goals
      go_wp2_with fail
      refine bodyPost_ret (v := .tuple #[.agg #[.slice a' n cap'], .slice (A) F.length capF, .int .i64 (p), .int .i64 q]) (by simp [results, Try.results41, go_sem, *]) rfl ⟨a', n, cap', L, A, F.length, capF, F, p, q, rfl, D9.out.set _ _, hcap, O9.out.far _ _ _ HA.out, hcF, hm, Hp.out, Hq.out, (dl_below D9.out B1.out).setCell (Nat.le_refl _) _⟩
end Go.Proofs.Ytehinlecppbjeaa
namespace Go.Proofs.Ytehinlecppbjeaa
open Go.RowKit
set_option maxHeartbeats 4000000
set_option linter.unusedVariables false
set_option linter.unusedSimpArgs false
theorem Sl.lat2 {w w' w3 : World} {A : Option Addr} {n B : Nat} {l : List Int} (h : Sl w A n l) (k : Later w w') (gr : w'.grownBy w3 (some B)) (hne : ∀ x, A = some x → x.block ≠ B) : Sl w3 A n l := (sl_lat h k).keptB gr hne
set_option maxRecDepth 100000 in
theorem s_DrawBlockAt (a : Option Addr) (len cap : Nat) (w : World) (hs : Bytes w a len) :
    Calls Try.prog 55 #[.slice a len cap] w (DrawnLF w) := by
  have HS := Lib.hid hs
  clear hs
  go_enter Try.func55, Try.ntmps55
  go_wp2_with fail
  refine (s_From a len cap _ (HS.out.later ((Below.refl _ _).alloc (Nat.le_refl _) _))).mono ?_
  rintro e w1 ⟨rfl, src, lt, bel⟩
  rw [World.size_alloc] at src lt bel ⊢
  have S1 := Lib.hid src
  have BL := Lib.hid bel
  clear src bel
  go_wp2_with fail
  refine (s_l04Draw (w.heap.size + 1) a len cap _ S1.out).mono ?_
  rintro e w2 ⟨a', n, cap', L, A, m, capF, F, rfl, hl, hcap, h26, hsm, hbl, hsl, hcF, hm, hbA, src, gr⟩
  obtain ⟨d2, b1, rc, rf, hz1⟩ := dl_begin0 S1.out BL.out hl hbl src gr
  have D2 := Lib.hid d2
  have B1 := Lib.hid b1
  have RC := Lib.hid rc; have RF := Lib.hid rf
  have SM := Lib.hid hsm
  have O2 := Lib.hid hsl
  have HA : Hid (∀ x, A = some x → x.block ≠ w.heap.size) := Lib.hid (fun x hx => by have h9 := hbA x hx; omega)
  have HB : Hid (∀ x, A = some x → x.block ≠ w.heap.size + 1) := Lib.hid (fun x hx => by have h9 := hbA x hx; omega)
  have hz2 := gr.size
  have hn1 : w2.heap.size ≠ w.heap.size := by omega
  have hn2 : w.heap.size ≠ w2.heap.size := by omega
  have D3 := Lib.hid (D2.out.box (.slice a' n cap') 26)
  have O3 := Lib.hid (sl_lat O2.out ((Later.refl w2).alloc (.cells #[.slice a' n cap'] 26)))
  clear hl hbl src gr d2 b1 rc rf hsm lt S1 BL D2 hsl hbA O2
  go_wp2_with fail
  go_region_held3 (fun w' => w'.cell? ⟨w2.heap.size, 0, none⟩ = some (.slice a' n cap')) (first | (refine DL.c1 (l := []) (g := w.heap.size) (a' := a') (n := n) (L := L) (B := w.heap.size + 1) (a := a) (len := len) (cap := cap) (w0 := w1) ?_; ((repeat (first | (with_reducible exact Hid.out (by assumption)) | (with_reducible refine DL.alloc ?_ _) | (with_reducible refine DL.drewN ?_ _) | (with_reducible refine DL.drew ?_) | (with_reducible refine DL.later ?_ (Hid.out (by assumption))))); done)) | (rw [World.cell?_setCell_other _ _ _ _ (by simp [hn1, hn2])]; refine DL.c1 (l := []) (g := w.heap.size) (a' := a') (n := n) (L := L) (B := w.heap.size + 1) (a := a) (len := len) (cap := cap) (w0 := w1) ?_; ((repeat (first | (with_reducible exact Hid.out (by assumption)) | (with_reducible refine DL.alloc ?_ _) | (with_reducible refine DL.drewN ?_ _) | (with_reducible refine DL.drew ?_) | (with_reducible refine DL.later ?_ (Hid.out (by assumption))))); done)))
    ((go_at_call 68; refine (s_DrawPositionW (w.heap.size + 1) a len cap a' n cap' L _ (show DL [(w2.heap.size, 0, .slice a' n cap')] w.heap.size a' n L (w.heap.size + 1) a len cap w1 _ from (by repeat (first | (with_reducible exact Hid.out (by assumption)) | (with_reducible refine DL.alloc ?_ _) | (with_reducible refine DL.drewN ?_ _) | (with_reducible refine DL.drew ?_) | (with_reducible refine DL.later ?_ (Hid.out (by assumption)))))).src (show DL [(w2.heap.size, 0, .slice a' n cap')] w.heap.size a' n L (w.heap.size + 1) a len cap w1 _ from (by repeat (first | (with_reducible exact Hid.out (by assumption)) | (with_reducible refine DL.alloc ?_ _) | (with_reducible refine DL.drewN ?_ _) | (with_reducible refine DL.drew ?_) | (with_reducible refine DL.later ?_ (Hid.out (by assumption)))))).sg h26 SM.out).mono ?_; rintro e w5 ⟨q, rfl, hq, src, gr⟩; have Hq := Lib.hid hq; have O5 := Lib.hid (Sl.lat2 O3.out (show Later (w2.alloc (.cells #[.slice a' n cap'] 26)) _ from (by repeat (first | (with_reducible exact Later.refl _) | (with_reducible exact Hid.out (by assumption)) | (with_reducible refine Later.alloc ?_ _) | (with_reducible refine Later.setCell ?_ (by simp; omega) _) | (with_reducible refine Later.setCell ?_ (by simp) _) | (with_reducible refine Later.drewN ?_ _) | (with_reducible refine Later.drew ?_) | (with_reducible refine Later.trans ?_ (Hid.out (by assumption)))))) gr HB.out); have D5 := Lib.hid (DL.call (show DL [(w2.heap.size, 0, .slice a' n cap')] w.heap.size a' n L (w.heap.size + 1) a len cap w1 _ from (by repeat (first | (with_reducible exact Hid.out (by assumption)) | (with_reducible refine DL.alloc ?_ _) | (with_reducible refine DL.drewN ?_ _) | (with_reducible refine DL.drew ?_) | (with_reducible refine DL.later ?_ (Hid.out (by assumption)))))) src gr); have rc5 := D5.out.old RC.out (by omega); have rf5 := D5.out.oldF RC.out RF.out (by omega); clear src gr hq))
  all_goals
    go_wp2_with fail
    refine bodyPost_ret (v := .tuple #[.agg #[.slice a' n cap'], .slice A m capF, .int .i64 q]) (by simp [results, Try.results55, go_sem, *]) rfl ⟨a', n, cap', L, A, m, capF, F, q, rfl, D5.out.set _ _, hcap, O5.out.far _ _ _ HA.out, hcF, by omega, Hq.out, (dl_below D5.out B1.out).setCell (Nat.le_refl _) _⟩
set_option maxRecDepth 100000 in
theorem s_DrawBlockLoads (a : Option Addr) (len cap : Nat) (w : World) (hs : Bytes w a len) :
    Calls Try.prog 33 #[.slice a len cap] w fun e w' => ∃ (a' : Option Addr) (n cap' : Nat) (L : List Sg) (A : Option Addr) (m capF : Nat) (F : List Int) (aP : Option Addr) (mP capP : Nat) (P : List Int) (q : Int), e = .returned (.tuple #[.agg #[.slice a' n cap'], .slice A m capF, .slice aP mP capP, .int .i64 q]) ∧ Sgs w' a' n L ∧ n ≤ cap' ∧ Sl w' A m F ∧ m ≤ capF ∧ m ≤ 1000 ∧ Sl w' aP mP P ∧ mP ≤ capP ∧ mP ≤ 1000 ∧ InR q ∧ Below w.heap.size w w' := by
  have HS := Lib.hid hs
  clear hs
  go_enter Try.func33, Try.ntmps33
  go_wp2_with fail
  refine (s_From a len cap _ (HS.out.later ((Below.refl _ _).alloc (Nat.le_refl _) _))).mono ?_
  rintro e w1 ⟨rfl, src, lt, bel⟩
  rw [World.size_alloc] at src lt bel ⊢
  have S1 := Lib.hid src
  have BL := Lib.hid bel
  clear src bel
  go_wp2_with fail
  refine (s_l04Draw (w.heap.size + 1) a len cap _ S1.out).mono ?_
  rintro e w2 ⟨a', n, cap', L, A, m, capF, F, rfl, hl, hcap, h26, hsm, hbl, hsl, hcF, hm, hbA, src, gr⟩
  obtain ⟨d2, b1, rc, rf, hz1⟩ := dl_begin0 S1.out BL.out hl hbl src gr
  have D2 := Lib.hid d2
  have B1 := Lib.hid b1
  have RC := Lib.hid rc; have RF := Lib.hid rf
  have SM := Lib.hid hsm
  have O2 := Lib.hid hsl
  have HA : Hid (∀ x, A = some x → x.block ≠ w.heap.size) := Lib.hid (fun x hx => by have h9 := hbA x hx; omega)
  have HB : Hid (∀ x, A = some x → x.block ≠ w.heap.size + 1) := Lib.hid (fun x hx => by have h9 := hbA x hx; omega)
  have hz2 := gr.size
  have hn1 : w2.heap.size ≠ w.heap.size := by omega
  have hn2 : w.heap.size ≠ w2.heap.size := by omega
  have D3 := Lib.hid (D2.out.box (.slice a' n cap') 26)
  have O3 := Lib.hid (sl_lat O2.out ((Later.refl w2).alloc (.cells #[.slice a' n cap'] 26)))
  clear hl hbl src gr d2 b1 rc rf hsm lt S1 BL D2 hsl hbA O2
  go_wp2_with fail
  refine (s_DrawLength5 (w.heap.size + 1) a len cap a' n cap' L _ D3.out.src D3.out.sg h26 SM.out D3.out.nB).mono ?_
  rintro e w3 ⟨q, rfl, hq, src, gr⟩
  have Hq : Hid (-300000000 ≤ q ∧ q ≤ 300000000) := Lib.hid (by omega)
  have O4 := Lib.hid (O3.out.keptB gr HB.out)
  have D4 := Lib.hid (D3.out.call src gr); have c4 := D4.out.c1; have rc4 := D4.out.old RC.out (by omega); have rf4 := D4.out.oldF RC.out RF.out (by omega)
  clear src gr hq
  go_wp2_with fail
  go_region_held3 (fun w' => w'.cell? ⟨w2.heap.size, 0, none⟩ = some (.slice a' n cap')) (first | (refine DL.c1 (l := []) (g := w.heap.size) (a' := a') (n := n) (L := L) (B := w.heap.size + 1) (a := a) (len := len) (cap := cap) (w0 := w1) ?_; ((repeat (first | (with_reducible exact Hid.out (by assumption)) | (with_reducible refine DL.alloc ?_ _) | (with_reducible refine DL.drewN ?_ _) | (with_reducible refine DL.drew ?_) | (with_reducible refine DL.later ?_ (Hid.out (by assumption))))); done)) | (rw [World.cell?_setCell_other _ _ _ _ (by simp [hn1, hn2])]; refine DL.c1 (l := []) (g := w.heap.size) (a' := a') (n := n) (L := L) (B := w.heap.size + 1) (a := a) (len := len) (cap := cap) (w0 := w1) ?_; ((repeat (first | (with_reducible exact Hid.out (by assumption)) | (with_reducible refine DL.alloc ?_ _) | (with_reducible refine DL.drewN ?_ _) | (with_reducible refine DL.drew ?_) | (with_reducible refine DL.later ?_ (Hid.out (by assumption))))); done)))
    ((go_at_call 83; refine (s_DrawFronts5 (w.heap.size + 1) a len cap a' n cap' L q _ (show DL [(w2.heap.size, 0, .slice a' n cap')] w.heap.size a' n L (w.heap.size + 1) a len cap w1 _ from (by repeat (first | (with_reducible exact Hid.out (by assumption)) | (with_reducible refine DL.alloc ?_ _) | (with_reducible refine DL.drewN ?_ _) | (with_reducible refine DL.drew ?_) | (with_reducible refine DL.later ?_ (Hid.out (by assumption)))))).src (show DL [(w2.heap.size, 0, .slice a' n cap')] w.heap.size a' n L (w.heap.size + 1) a len cap w1 _ from (by repeat (first | (with_reducible exact Hid.out (by assumption)) | (with_reducible refine DL.alloc ?_ _) | (with_reducible refine DL.drewN ?_ _) | (with_reducible refine DL.drew ?_) | (with_reducible refine DL.later ?_ (Hid.out (by assumption)))))).sg h26 SM.out Hq.out.1 Hq.out.2).mono ?_; rintro e w5 ⟨v, P, rfl, ho, hmP, src, gr⟩; have hz5 := dl_le (show DL [(w2.heap.size, 0, .slice a' n cap')] w.heap.size a' n L (w.heap.size + 1) a len cap w1 _ from (by repeat (first | (with_reducible exact Hid.out (by assumption)) | (with_reducible refine DL.alloc ?_ _) | (with_reducible refine DL.drewN ?_ _) | (with_reducible refine DL.drew ?_) | (with_reducible refine DL.later ?_ (Hid.out (by assumption)))))) gr; obtain ⟨aP, capP, rfl, hslP, hcP, hbP⟩ := ho.rows; have P5 := Lib.hid hslP; have HP : Hid (∀ x, aP = some x → x.block ≠ w.heap.size) := Lib.hid (fun x hx => by have h9 := hbP x hx; omega); have O5 := Lib.hid (Sl.lat2 O4.out (show Later w3 _ from (by repeat (first | (with_reducible exact Later.refl _) | (with_reducible exact Hid.out (by assumption)) | (with_reducible refine Later.alloc ?_ _) | (with_reducible refine Later.setCell ?_ (by simp; omega) _) | (with_reducible refine Later.setCell ?_ (by simp) _) | (with_reducible refine Later.drewN ?_ _) | (with_reducible refine Later.drew ?_) | (with_reducible refine Later.trans ?_ (Hid.out (by assumption)))))) gr HB.out); have D5 := Lib.hid (DL.call (show DL [(w2.heap.size, 0, .slice a' n cap')] w.heap.size a' n L (w.heap.size + 1) a len cap w1 _ from (by repeat (first | (with_reducible exact Hid.out (by assumption)) | (with_reducible refine DL.alloc ?_ _) | (with_reducible refine DL.drewN ?_ _) | (with_reducible refine DL.drew ?_) | (with_reducible refine DL.later ?_ (Hid.out (by assumption)))))) src gr); have rc5 := D5.out.old RC.out (by omega); have rf5 := D5.out.oldF RC.out RF.out (by omega); clear src gr ho hslP hbP))
  all_goals
    go_wp2_with fail
    refine bodyPost_ret (v := .tuple #[.agg #[.slice a' n cap'], .slice A m capF, .slice aP P.length capP, .int .i64 q]) (by simp [results, Try.results33, go_sem, *]) rfl ⟨a', n, cap', L, A, m, capF, F, aP, P.length, capP, P, q, rfl, D5.out.set _ _, hcap, O5.out.far _ _ _ HA.out, hcF, by omega, P5.out.far _ _ _ HP.out, hcP, hmP, ⟨by have := Hq.out; omega, by have := Hq.out; omega⟩, (dl_below D5.out B1.out).setCell (Nat.le_refl _) _⟩
/-- a layout, blocks and a number, drawn by a function that the source is handed to -/
def DrawnBkN (w : World) (B : Nat) (a : Option Addr) (len cap : Nat) (e : Ending) (w' : World) : Prop :=
  ∃ (a' : Option Addr) (n cap' : Nat) (L : List Sg) (A : Option Addr) (m capF : Nat) (F : List Int) (q : Int), e = .returned (.tuple #[.agg #[.slice a' n cap'], .slice A m capF, .int .i64 q]) ∧ Sgs w' a' n L ∧ n ≤ cap' ∧ (∀ x, a' = some x → 0 < n → w.heap.size ≤ x.block) ∧ Sl w' A m F ∧ m ≤ capF ∧ m ≤ 10 ∧ (∀ x, A = some x → w.heap.size ≤ x.block) ∧ InR q ∧ w.grownBy w' (some B)
set_option maxRecDepth 100000 in
theorem s_l04DrawBlock (B : Nat) (a : Option Addr) (len cap : Nat) (w : World) (hs : Src w B a len cap) :
    Calls Try.prog 116 #[.pointer (some ⟨B, 0, none⟩)] w (DrawnBkN w B a len cap) := by
  have HS := Lib.hid hs
  have hB := hs.lt
  clear hs
  go_enter Try.func116, Try.ntmps116
  go_wp2_with fail
  have S1 : Hid (Src (w.alloc (.cells #[.slice none 0 0] 26)) B a len cap) := Lib.hid (HS.out.alloc _)
  refine (s_l04Draw B a len cap _ S1.out).mono ?_
  rintro e w2 ⟨a', n, cap', L, A, m, capF, F, rfl, hl, hcap, h26, hsm, hbl, hsl, hcF, hm, hbA, src, gr⟩
  rw [World.size_alloc] at hbl hbA
  obtain ⟨w1, hw1⟩ : ∃ w1, w.alloc (.cells #[.slice none 0 0] 26) = w1 := ⟨_, rfl⟩
  have hz1 : w1.heap.size = w.heap.size + 1 := by rw [← hw1, World.size_alloc]
  have RC : Hid (w1.cell? ⟨w.heap.size, 0, none⟩ = some (.slice none 0 0)) := Lib.hid (by rw [← hw1]; simp)
  have RF : Hid (w1.frozen? ⟨w.heap.size, 0, none⟩ = false) := Lib.hid (by rw [← hw1]; simp)
  have G1 : Hid (w.grownBy w1 (some B)) := Lib.hid (by rw [← hw1]; exact World.grownBy_alloc w _ _)
  rw [hw1] at S1 gr
  have D2 : Hid (DL [] w.heap.size a' n L B a len cap w1 w2) := Lib.hid ⟨(St.begin S1.out).call src gr, hl, fun x hx hn => ⟨by have := hbl x hx hn; omega, by have := hbl x hx hn; omega⟩⟩
  have SM := Lib.hid hsm
  have O2 := Lib.hid hsl
  have HA : Hid (∀ x, A = some x → x.block ≠ w.heap.size) := Lib.hid (fun x hx => by have h9 := hbA x hx; omega)
  have HB : Hid (∀ x, A = some x → x.block ≠ B) := Lib.hid (fun x hx => by have h9 := hbA x hx; omega)
  have HL1 : Hid (∀ x, a' = some x → 0 < n → w.heap.size ≤ x.block) := Lib.hid (fun x hx hn => by have := hbl x hx hn; omega)
  have HA1 : Hid (∀ x, A = some x → w.heap.size ≤ x.block) := Lib.hid (fun x hx => by have := hbA x hx; omega)
  have hz2 := gr.size
  have hn1 : w2.heap.size ≠ w.heap.size := by omega
  have hn2 : w.heap.size ≠ w2.heap.size := by omega
  have D3 := Lib.hid (D2.out.box (.slice a' n cap') 26)
  have O3 := Lib.hid (sl_lat O2.out ((Later.refl w2).alloc (.cells #[.slice a' n cap'] 26)))
  have hm' : (m : Int) ≤ 10 := by omega
  clear hl hbl src gr hsm S1 D2 hsl hbA O2 hw1
  go_wp2_with fail
  refine (s_Next B a len cap 16 _ D3.out.src (by omega) (by omega)).mono ?_
  rintro e w3 ⟨c, rfl, x0, x1, x2, src, gr⟩
  have O4 := Lib.hid (O3.out.keptB gr HB.out)
  have D4 := Lib.hid (D3.out.call src gr); have c4 := D4.out.c1; have rc4 := D4.out.old RC.out (by omega); have rf4 := D4.out.oldF RC.out RF.out (by omega)
  have hz3 := D4.out.1.le
  clear src gr x1 x2

  by_cases k0 : c = 0
  · subst k0
    go_wp2_with fail
    go_region_held3 (fun w' => w'.cell? ⟨w2.heap.size, 0, none⟩ = some (.slice a' n cap')) (first | (refine DL.c1 (l := []) (g := w.heap.size) (a' := a') (n := n) (L := L) (B := B) (a := a) (len := len) (cap := cap) (w0 := w1) ?_; ((repeat (first | (with_reducible exact Hid.out (by assumption)) | (with_reducible refine DL.alloc ?_ _) | (with_reducible refine DL.drewN ?_ _) | (with_reducible refine DL.drew ?_) | (with_reducible refine DL.later ?_ (Hid.out (by assumption))))); done)) | (rw [World.cell?_setCell_other _ _ _ _ (by simp [hn1, hn2])]; refine DL.c1 (l := []) (g := w.heap.size) (a' := a') (n := n) (L := L) (B := B) (a := a) (len := len) (cap := cap) (w0 := w1) ?_; ((repeat (first | (with_reducible exact Hid.out (by assumption)) | (with_reducible refine DL.alloc ?_ _) | (with_reducible refine DL.drewN ?_ _) | (with_reducible refine DL.drew ?_) | (with_reducible refine DL.later ?_ (Hid.out (by assumption))))); done)))
      ((go_at_call 120; refine (s_Pick B a len cap _ 2 2 [-1, (m : Int)] _ (show DL [(w2.heap.size, 0, .slice a' n cap')] w.heap.size a' n L B a len cap w1 _ from (by repeat (first | (with_reducible exact Hid.out (by assumption)) | (with_reducible refine DL.alloc ?_ _) | (with_reducible refine DL.drewN ?_ _) | (with_reducible refine DL.drew ?_) | (with_reducible refine DL.later ?_ (Hid.out (by assumption)))))).src (by first | exact sl_new _ [-1, (m : Int)] 2 (by simp) (by intro x hx; simp at hx; unfold InR; omega) | exact sl_lat (sl_new _ [-1, (m : Int)] 2 (by simp) (by intro x hx; simp at hx; unfold InR; omega)) ((Later.refl _).drew) | exact sl_lat (sl_new _ [-1, (m : Int)] 2 (by simp) (by intro x hx; simp at hx; unfold InR; omega)) ((Later.refl _).drewN _)) (by simp; omega) (by omega)).mono ?_; rintro e w5 ⟨q, rfl, hq, src, gr⟩; have Hq : Hid (InR q) := Lib.hid (by simp at hq; unfold InR; omega); have O5 := Lib.hid (Sl.lat2 O4.out (show Later w3 _ from (by repeat (first | (with_reducible exact Later.refl _) | (with_reducible exact Hid.out (by assumption)) | (with_reducible refine Later.alloc ?_ _) | (with_reducible refine Later.setCell ?_ (by simp; omega) _) | (with_reducible refine Later.setCell ?_ (by simp) _) | (with_reducible refine Later.drewN ?_ _) | (with_reducible refine Later.drew ?_) | (with_reducible refine Later.trans ?_ (Hid.out (by assumption)))))) gr HB.out); have D5 := Lib.hid (DL.call (show DL [(w2.heap.size, 0, .slice a' n cap')] w.heap.size a' n L B a len cap w1 _ from (by repeat (first | (with_reducible exact Hid.out (by assumption)) | (with_reducible refine DL.alloc ?_ _) | (with_reducible refine DL.drewN ?_ _) | (with_reducible refine DL.drew ?_) | (with_reducible refine DL.later ?_ (Hid.out (by assumption)))))) src gr); have rc5 := D5.out.old RC.out (by omega); have rf5 := D5.out.oldF RC.out RF.out (by omega); clear src gr hq))
    all_goals
      go_wp2_with fail
      refine bodyPost_ret (v := .tuple #[.agg #[.slice a' n cap'], .slice A m capF, .int .i64 q]) (by simp [results, Try.results116, go_sem, *]) rfl ⟨a', n, cap', L, A, m, capF, F, q, rfl, D5.out.set _ _, hcap, HL1.out, O5.out.far _ _ _ HA.out, hcF, hm, HA1.out, Hq.out, grown_set_new (grown_trans G1.out D5.out.1.grown) (p := ⟨w.heap.size, 0, none⟩) (Nat.le_refl _) _⟩
  · have e0 : (c == 0) = false := by simpa using k0
    clear k0
    go_wp2_with fail
    go_region_held3 (fun w' => w'.cell? ⟨w2.heap.size, 0, none⟩ = some (.slice a' n cap')) (first | (refine DL.c1 (l := []) (g := w.heap.size) (a' := a') (n := n) (L := L) (B := B) (a := a) (len := len) (cap := cap) (w0 := w1) ?_; ((repeat (first | (with_reducible exact Hid.out (by assumption)) | (with_reducible refine DL.alloc ?_ _) | (with_reducible refine DL.drewN ?_ _) | (with_reducible refine DL.drew ?_) | (with_reducible refine DL.later ?_ (Hid.out (by assumption))))); done)) | (rw [World.cell?_setCell_other _ _ _ _ (by simp [hn1, hn2])]; refine DL.c1 (l := []) (g := w.heap.size) (a' := a') (n := n) (L := L) (B := B) (a := a) (len := len) (cap := cap) (w0 := w1) ?_; ((repeat (first | (with_reducible exact Hid.out (by assumption)) | (with_reducible refine DL.alloc ?_ _) | (with_reducible refine DL.drewN ?_ _) | (with_reducible refine DL.drew ?_) | (with_reducible refine DL.later ?_ (Hid.out (by assumption))))); done)))
      ((go_at_call 79; refine (s_Next B a len cap m _ (show DL [(w2.heap.size, 0, .slice a' n cap')] w.heap.size a' n L B a len cap w1 _ from (by repeat (first | (with_reducible exact Hid.out (by assumption)) | (with_reducible refine DL.alloc ?_ _) | (with_reducible refine DL.drewN ?_ _) | (with_reducible refine DL.drew ?_) | (with_reducible refine DL.later ?_ (Hid.out (by assumption)))))).src (by omega) (by omega)).mono ?_; rintro e w5 ⟨q, rfl, q0, q1, q2, src, gr⟩; have Hq : Hid (InR q) := Lib.hid ⟨by omega, by by_cases h : (1 : Int) < m; (have := q1 h; omega); (have := q2 (by omega); omega)⟩; have O5 := Lib.hid (Sl.lat2 O4.out (show Later w3 _ from (by repeat (first | (with_reducible exact Later.refl _) | (with_reducible exact Hid.out (by assumption)) | (with_reducible refine Later.alloc ?_ _) | (with_reducible refine Later.setCell ?_ (by simp; omega) _) | (with_reducible refine Later.setCell ?_ (by simp) _) | (with_reducible refine Later.drewN ?_ _) | (with_reducible refine Later.drew ?_) | (with_reducible refine Later.trans ?_ (Hid.out (by assumption)))))) gr HB.out); have D5 := Lib.hid (DL.call (show DL [(w2.heap.size, 0, .slice a' n cap')] w.heap.size a' n L B a len cap w1 _ from (by repeat (first | (with_reducible exact Hid.out (by assumption)) | (with_reducible refine DL.alloc ?_ _) | (with_reducible refine DL.drewN ?_ _) | (with_reducible refine DL.drew ?_) | (with_reducible refine DL.later ?_ (Hid.out (by assumption)))))) src gr); have rc5 := D5.out.old RC.out (by omega); have rf5 := D5.out.oldF RC.out RF.out (by omega); clear src gr q0 q1 q2))
    all_goals
      go_wp2_with fail
      refine bodyPost_ret (v := .tuple #[.agg #[.slice a' n cap'], .slice A m capF, .int .i64 q]) (by simp [results, Try.results116, go_sem, *]) rfl ⟨a', n, cap', L, A, m, capF, F, q, rfl, D5.out.set _ _, hcap, HL1.out, O5.out.far _ _ _ HA.out, hcF, hm, HA1.out, Hq.out, grown_set_new (grown_trans G1.out D5.out.1.grown) (p := ⟨w.heap.size, 0, none⟩) (Nat.le_refl _) _⟩
end Go.Proofs.Ytehinlecppbjeaa
namespace Go.Proofs.Ytehinlecppbjeaa
open Go.RowKit
set_option maxHeartbeats 4000000
set_option linter.unusedVariables false
set_option linter.unusedSimpArgs false
theorem tr_cases (L : List Sg) (x y q : Int) : (trE L x q = 1 ∧ trE L y q = 1 ∧ gapE L x y q = 1) ∨ (trE L x q = 2 ∧ trE L y q = 2 ∧ gapE L x y q = 2) ∨ (trE L x q = 2 ∧ trE L y q = 0 ∧ gapE L x y q = 2) ∨ (trE L x q = 0 ∧ trE L y q = 2 ∧ gapE L x y q = 2) ∨ (trE L x q = 0 ∧ trE L y q = 0) := by
  cases hv : layB L
  · left
    exact ⟨trE_bad hv, trE_bad hv, by unfold gapE; rw [trE_bad hv]; simp⟩
  · right
    unfold gapE trE
    rw [if_pos hv, if_pos hv]
    cases trsB (totL L) q [x] <;> cases trsB (totL L) q [y] <;> simp
set_option maxRecDepth 100000 in
theorem s_GapAhead (a : Option Addr) (n cap : Nat) (L : List Sg) (x y q : Int) (w : World) (hs : Sgs w a n L) :
    Calls Try.prog 28 #[.agg #[.slice a n cap], .int .i64 x, .int .i64 y, .int .i64 q] w fun e w' => e = .returned (.tuple #[.int .i64 (gapV L x y q), .int .i64 (gapE L x y q)]) ∧ Later w w' := by
  have HS := Lib.hid hs
  have HL := Lib.hid hs.1
  clear hs
  have KB : Hid (∀ W', Later (w.alloc (.cells #[.slice a n cap] 26)) W' → W'.cell? ⟨w.heap.size, 0, none⟩ = some (.slice a n cap)) := Lib.hid (fun W' k => by rw [k.cell (p := ⟨w.heap.size, 0, none⟩) (by simp)]; simp)
  rcases tr_cases L x y q with ⟨e1, e2, e3⟩ | ⟨e1, e2, e3⟩ | ⟨e1, e2, e3⟩ | ⟨e1, e2, e3⟩ | ⟨e1, e2⟩
  iterate 4
    · have HX := Lib.hid e1; have HY := Lib.hid e2
      have HT : Hid (gapV L x y q = 0 ∧ gapE L x y q = gapE L x y q) := Lib.hid ⟨by unfold gapV; rw [e3]; simp, rfl⟩
      have HE := Lib.hid e3
      clear e1 e2 e3
      go_enter Try.func28, Try.ntmps28
      go_wp2_with fail
      go_region_held3 (fun w' => w'.cell? ⟨w.heap.size, 0, none⟩ = some (.slice a n cap)) (exact KB.out _ (by repeat (first | (with_reducible exact Later.refl _) | (with_reducible exact Hid.out (by assumption)) | (with_reducible refine Later.alloc ?_ _) | (with_reducible refine Later.setCell ?_ (by simp; omega) _) | (with_reducible refine Later.setCell ?_ (by simp) _) | (with_reducible refine Later.drewN ?_ _) | (with_reducible refine Later.drew ?_) | (with_reducible refine Later.trans ?_ (Hid.out (by assumption))))))
        (first | (go_at_call 77; refine (s_l05Train a n cap L _ q _ (HS.out.later (by repeat (first | (with_reducible exact Later.refl _) | (with_reducible exact Hid.out (by assumption)) | (with_reducible refine Later.alloc ?_ _) | (with_reducible refine Later.setCell ?_ (by simp; omega) _) | (with_reducible refine Later.setCell ?_ (by simp) _) | (with_reducible refine Later.drewN ?_ _) | (with_reducible refine Later.drew ?_) | (with_reducible refine Later.trans ?_ (Hid.out (by assumption))))))).mono ?_; (first | rw [HX.out] | rw [HY.out]); rintro e w1 ⟨rfl, hb⟩; have H1 := Lib.hid hb; clear hb))
      all_goals
        go_wp2_with fail
        go_ret2
        exact ⟨ret_2i (by rw [HT.out.1]) (by rw [HE.out]), (by repeat (first | (with_reducible exact Later.refl _) | (with_reducible exact Hid.out (by assumption)) | (with_reducible refine Later.alloc ?_ _) | (with_reducible refine Later.setCell ?_ (by simp; omega) _) | (with_reducible refine Later.setCell ?_ (by simp) _) | (with_reducible refine Later.drewN ?_ _) | (with_reducible refine Later.drew ?_) | (with_reducible refine Later.trans ?_ (Hid.out (by assumption)))))⟩
  · obtain ⟨hv, hn, hp⟩ := trE_ok e1
    obtain ⟨_, _, hp'⟩ := trE_ok e2
    have HX := Lib.hid e1; have HY := Lib.hid e2
    have HO := Lib.hid ((layB_iff L).1 hv).2.2.1
    have h24 := ((layB_iff L).1 hv).2.1
    rw [HL.out] at h24
    obtain ⟨t1, t2⟩ := tot_bd hv
    rw [isN_iff] at hn
    rw [isP_iff] at hp hp'
    obtain ⟨q1, q2, q3⟩ := hn
    obtain ⟨x1, x2⟩ := hp
    obtain ⟨y1, y2⟩ := hp'
    cases ha : apB (totL L) x y q
    · have HT : Hid (gapV L x y q = 0 ∧ gapE L x y q = 5) := Lib.hid (by
        have : gapE L x y q = 5 := by unfold gapE; rw [e1, e2, ha]; simp
        unfold gapV; rw [this]; simp)
      clear hv e1 e2
      go_enter Try.func28, Try.ntmps28
      go_wp2_with fail
      go_region_held3 (fun w' => w'.cell? ⟨w.heap.size, 0, none⟩ = some (.slice a n cap)) (exact KB.out _ (by repeat (first | (with_reducible exact Later.refl _) | (with_reducible exact Hid.out (by assumption)) | (with_reducible refine Later.alloc ?_ _) | (with_reducible refine Later.setCell ?_ (by simp; omega) _) | (with_reducible refine Later.setCell ?_ (by simp) _) | (with_reducible refine Later.drewN ?_ _) | (with_reducible refine Later.drew ?_) | (with_reducible refine Later.trans ?_ (Hid.out (by assumption))))))
        (first | (go_at_call 77; refine (s_l05Train a n cap L _ q _ (HS.out.later (by repeat (first | (with_reducible exact Later.refl _) | (with_reducible exact Hid.out (by assumption)) | (with_reducible refine Later.alloc ?_ _) | (with_reducible refine Later.setCell ?_ (by simp; omega) _) | (with_reducible refine Later.setCell ?_ (by simp) _) | (with_reducible refine Later.drewN ?_ _) | (with_reducible refine Later.drew ?_) | (with_reducible refine Later.trans ?_ (Hid.out (by assumption))))))).mono ?_; (first | rw [HX.out] | rw [HY.out]); rintro e w1 ⟨rfl, hb⟩; have H1 := Lib.hid hb; clear hb))
      all_goals
        refine then_into (fun W => Later (w.alloc (.cells #[.slice a n cap] 26)) W) (by repeat (first | (with_reducible exact Later.refl _) | (with_reducible exact Hid.out (by assumption)) | (with_reducible refine Later.alloc ?_ _) | (with_reducible refine Later.setCell ?_ (by simp; omega) _) | (with_reducible refine Later.setCell ?_ (by simp) _) | (with_reducible refine Later.drewN ?_ _) | (with_reducible refine Later.drew ?_) | (with_reducible refine Later.trans ?_ (Hid.out (by assumption))))) ?_
        intro W hW
        have HW : Hid (Later w W) := Lib.hid (((Later.refl _).alloc _).trans hW)
        have cb := KB.out W hW
        clear hW
        go_wp2_with (first
          | (go_at_call 73; refine (s_Total a n cap L _ (HS.out.later (by repeat (first | (with_reducible exact Later.refl _) | (with_reducible exact Hid.out (by assumption)) | (with_reducible refine Later.alloc ?_ _) | (with_reducible refine Later.setCell ?_ (by simp; omega) _) | (with_reducible refine Later.setCell ?_ (by simp) _) | (with_reducible refine Later.drewN ?_ _) | (with_reducible refine Later.drew ?_) | (with_reducible refine Later.trans ?_ (Hid.out (by assumption)))))) HO.out h24).mono ?_; rintro e w2 ⟨rfl, hb⟩; have H2 := Lib.hid hb; clear hb)
          | (go_at_call 82; refine (s_l05Apart (totL L) x y q _ (by omega) t2 x1 x2 y1 y2).mono ?_; rw [ha]; rintro e w' ⟨rfl, rfl⟩))
        go_ret2
        exact ⟨ret_2i (by rw [HT.out.1]) (by rw [HT.out.2]), (by repeat (first | (with_reducible exact Later.refl _) | (with_reducible exact Hid.out (by assumption)) | (with_reducible refine Later.alloc ?_ _) | (with_reducible refine Later.setCell ?_ (by simp; omega) _) | (with_reducible refine Later.setCell ?_ (by simp) _) | (with_reducible refine Later.drewN ?_ _) | (with_reducible refine Later.drew ?_) | (with_reducible refine Later.trans ?_ (Hid.out (by assumption)))))⟩
    · have HT : Hid (gapV L x y q = (y - x) % totL L - q ∧ gapE L x y q = 0) := Lib.hid (by
        have : gapE L x y q = 0 := by unfold gapE; rw [e1, e2, ha]; simp
        unfold gapV; rw [this]; exact ⟨rfl, rfl⟩)
      obtain ⟨r1, r2⟩ : 0 ≤ (y - x) % totL L ∧ (y - x) % totL L < totL L := mod_rng _ _ (by omega)
      clear hv e1 e2
      go_enter Try.func28, Try.ntmps28
      go_wp2_with fail
      go_region_held3 (fun w' => w'.cell? ⟨w.heap.size, 0, none⟩ = some (.slice a n cap)) (exact KB.out _ (by repeat (first | (with_reducible exact Later.refl _) | (with_reducible exact Hid.out (by assumption)) | (with_reducible refine Later.alloc ?_ _) | (with_reducible refine Later.setCell ?_ (by simp; omega) _) | (with_reducible refine Later.setCell ?_ (by simp) _) | (with_reducible refine Later.drewN ?_ _) | (with_reducible refine Later.drew ?_) | (with_reducible refine Later.trans ?_ (Hid.out (by assumption))))))
        (first | (go_at_call 77; refine (s_l05Train a n cap L _ q _ (HS.out.later (by repeat (first | (with_reducible exact Later.refl _) | (with_reducible exact Hid.out (by assumption)) | (with_reducible refine Later.alloc ?_ _) | (with_reducible refine Later.setCell ?_ (by simp; omega) _) | (with_reducible refine Later.setCell ?_ (by simp) _) | (with_reducible refine Later.drewN ?_ _) | (with_reducible refine Later.drew ?_) | (with_reducible refine Later.trans ?_ (Hid.out (by assumption))))))).mono ?_; (first | rw [HX.out] | rw [HY.out]); rintro e w1 ⟨rfl, hb⟩; have H1 := Lib.hid hb; clear hb))
      all_goals
        refine then_into (fun W => Later (w.alloc (.cells #[.slice a n cap] 26)) W) (by repeat (first | (with_reducible exact Later.refl _) | (with_reducible exact Hid.out (by assumption)) | (with_reducible refine Later.alloc ?_ _) | (with_reducible refine Later.setCell ?_ (by simp; omega) _) | (with_reducible refine Later.setCell ?_ (by simp) _) | (with_reducible refine Later.drewN ?_ _) | (with_reducible refine Later.drew ?_) | (with_reducible refine Later.trans ?_ (Hid.out (by assumption))))) ?_
        intro W hW
        have HW : Hid (Later w W) := Lib.hid (((Later.refl _).alloc _).trans hW)
        have cb := KB.out W hW
        clear hW
        go_wp2_with (first
          | (go_at_call 73; refine (s_Total a n cap L _ (HS.out.later (by repeat (first | (with_reducible exact Later.refl _) | (with_reducible exact Hid.out (by assumption)) | (with_reducible refine Later.alloc ?_ _) | (with_reducible refine Later.setCell ?_ (by simp; omega) _) | (with_reducible refine Later.setCell ?_ (by simp) _) | (with_reducible refine Later.drewN ?_ _) | (with_reducible refine Later.drew ?_) | (with_reducible refine Later.trans ?_ (Hid.out (by assumption)))))) HO.out h24).mono ?_; rintro e w2 ⟨rfl, hb⟩; have H2 := Lib.hid hb; clear hb)
          | (go_at_call 82; refine (s_l05Apart (totL L) x y q _ (by omega) t2 x1 x2 y1 y2).mono ?_; rw [ha]; rintro e w' ⟨rfl, rfl⟩)
          | (go_at_call 78; refine (s_l05Mod (y - x) (totL L) _ (by omega) (by omega) (by omega) (by omega)).mono ?_; rintro e w' ⟨rfl, rfl⟩))
        go_ret2
        exact ⟨ret_2i (by rw [HT.out.1]) (by rw [HT.out.2]), (by repeat (first | (with_reducible exact Later.refl _) | (with_reducible exact Hid.out (by assumption)) | (with_reducible refine Later.alloc ?_ _) | (with_reducible refine Later.setCell ?_ (by simp; omega) _) | (with_reducible refine Later.setCell ?_ (by simp) _) | (with_reducible refine Later.drewN ?_ _) | (with_reducible refine Later.drew ?_) | (with_reducible refine Later.trans ?_ (Hid.out (by assumption)))))⟩
theorem s_l05Fronts (a : Option Addr) (n cap : Nat) (L : List Sg) (A : Option Addr) (m capF : Nat) (F : List Int) (q : Int) (w : World) (hs : Sgs w a n L) (hf : Sl w A m F) (hv : layB L = true) :
    Calls Try.prog 85 #[.agg #[.slice a n cap], .slice A m capF, .int .i64 q] w fun e w' => e = .returned (.bool (trsB (totL L) q F)) ∧ Later w w' := by
  have HS := Lib.hid hs; have HL := Lib.hid hs.1
  have HF := Lib.hid hf; have HM := Lib.hid hf.1
  have hm := hf.2.1
  clear hs hf
  have HO := Lib.hid ((layB_iff L).1 hv).2.2.1
  have h24 := ((layB_iff L).1 hv).2.1
  rw [HL.out] at h24
  obtain ⟨t1, t2⟩ := tot_bd hv
  clear hv
  go_enter Try.func85, Try.ntmps85
  go_wp2_with (go_at_call 73; refine (s_Total a n cap L _ (HS.out.later (by repeat (first | (with_reducible exact Later.refl _) | (with_reducible exact Hid.out (by assumption)) | (with_reducible refine Later.alloc ?_ _) | (with_reducible refine Later.setCell ?_ (by simp; omega) _) | (with_reducible refine Later.setCell ?_ (by simp) _) | (with_reducible refine Later.drewN ?_ _) | (with_reducible refine Later.drew ?_) | (with_reducible refine Later.trans ?_ (Hid.out (by assumption)))))) HO.out h24).mono ?_; rintro e w2 ⟨rfl, hb⟩; have H2 := Lib.hid hb; clear hb)
  have HW : Hid (Later w w2) := Lib.hid (by repeat (first | (with_reducible exact Later.refl _) | (with_reducible exact Hid.out (by assumption)) | (with_reducible refine Later.alloc ?_ _) | (with_reducible refine Later.setCell ?_ (by simp; omega) _) | (with_reducible refine Later.setCell ?_ (by simp) _) | (with_reducible refine Later.drewN ?_ _) | (with_reducible refine Later.drew ?_) | (with_reducible refine Later.trans ?_ (Hid.out (by assumption)))))
  go_loop [8] (fun i => ∃ k : Nat, k ≤ m ∧ i = .int .i64 k ∧ ∀ j, j < k → isP (totL L) (gx F j) = true) (fun i => m - (intOf i).toNat)
  case atStart => exact ⟨0, by omega, rfl, fun j hj => by omega⟩
  case round =>
    obtain ⟨k, hk, rfl, hok⟩ := hrel
    have HK := Lib.hid hok
    clear hok
    by_cases hlt : k < m
    · obtain ⟨b, off, rfl, hc⟩ := (sl_lat HF.out HW.out).at k hlt
      by_cases hin : 0 ≤ gx F k ∧ gx F k ≤ totL L - 1
      · obtain ⟨g1, g2⟩ := hin
        go_wp2_with (go_at_call 108; refine (s_In _ _ _ _).mono ?_; rintro e w' ⟨rfl, rfl⟩)
        go_round
        case rel =>
          refine ⟨k + 1, by omega, by go_num, fun j hj => ?_⟩
          by_cases e : j = k
          · rw [e, isP_iff]; omega
          · exact HK.out j (by omega)
        case measure => simp [intOf]; omega
      · have HN : Hid (trsB (totL L) q F = false) := Lib.hid (by unfold trsB; rw [allP_no (by rw [HM.out]; exact hlt) ((isP_no _ _).2 (by omega))]; simp)
        have d : (decide (0 ≤ gx F k) && decide (gx F k ≤ totL L - 1)) = false := by simpa using hin
        clear hin
        go_wp2_with (go_at_call 108; refine (s_In _ _ _ _).mono ?_; rintro e w' ⟨rfl, rfl⟩)
        go_ret
        exact ⟨ret_b (by rw [HN.out]), HW.out⟩
    · obtain rfl : k = m := by omega
      have HA : Hid (allP (totL L) F = true) := Lib.hid (allP_of (by rw [HM.out]; exact HK.out))
      by_cases ht : 40000 ≤ totL L
      · have HT : Hid (trsB (totL L) q F = (decide (1 ≤ q) && decide (q ≤ 40000))) := Lib.hid (by unfold trsB isN; rw [HA.out, Bool.eq_iff_iff]; simp; omega)
        go_wp2_with (go_at_call 108; refine (s_In _ _ _ _).mono ?_; rintro e w' ⟨rfl, rfl⟩)
        go_ret
        exact ⟨ret_b (by rw [HT.out]), HW.out⟩
      · have HT : Hid (trsB (totL L) q F = (decide (1 ≤ q) && decide (q ≤ totL L))) := Lib.hid (by unfold trsB isN; rw [HA.out, Bool.eq_iff_iff]; simp; omega)
        go_wp2_with (go_at_call 108; refine (s_In _ _ _ _).mono ?_; rintro e w' ⟨rfl, rfl⟩)
        go_ret
        exact ⟨ret_b (by rw [HT.out]), HW.out⟩
theorem s_l05Sensors (a : Option Addr) (n cap : Nat) (L : List Sg) (A : Option Addr) (m capF : Nat) (F : List Int) (w : World) (hs : Sgs w a n L) (hf : Sl w A m F) :
    Calls Try.prog 101 #[.agg #[.slice a n cap], .slice A m capF] w fun e w' => e = .returned (.bool (senB L F)) ∧ Later w w' := by
  have HS := Lib.hid hs; have HL := Lib.hid hs.1
  have HF := Lib.hid hf; have HM := Lib.hid hf.1
  have hm := hf.2.1
  clear hs hf
  cases hv : layB L
  · have HT : Hid (senB L F = false) := Lib.hid (by rw [senB_no, hv]; simp)
    go_enter Try.func101, Try.ntmps101
    go_wp2_with (go_at_call 84; refine (s_IsLayout a n cap L _ (HS.out.later (by repeat (first | (with_reducible exact Later.refl _) | (with_reducible exact Hid.out (by assumption)) | (with_reducible refine Later.alloc ?_ _) | (with_reducible refine Later.setCell ?_ (by simp; omega) _) | (with_reducible refine Later.setCell ?_ (by simp) _) | (with_reducible refine Later.drewN ?_ _) | (with_reducible refine Later.drew ?_) | (with_reducible refine Later.trans ?_ (Hid.out (by assumption))))))).mono ?_; rw [hv]; rintro e w1 ⟨rfl, hb⟩; have H1 := Lib.hid hb; clear hb)
    go_ret
    exact ⟨ret_b (by rw [HT.out]), (by repeat (first | (with_reducible exact Later.refl _) | (with_reducible exact Hid.out (by assumption)) | (with_reducible refine Later.alloc ?_ _) | (with_reducible refine Later.setCell ?_ (by simp; omega) _) | (with_reducible refine Later.setCell ?_ (by simp) _) | (with_reducible refine Later.drewN ?_ _) | (with_reducible refine Later.drew ?_) | (with_reducible refine Later.trans ?_ (Hid.out (by assumption)))))⟩
  have HO := Lib.hid ((layB_iff L).1 hv).2.2.1
  have h24 := ((layB_iff L).1 hv).2.1
  rw [HL.out] at h24
  by_cases h32 : m ≤ 32
  · have HT : Hid (senB L F = risB F (totL L)) := Lib.hid (by rw [Bool.eq_iff_iff, senB_iff, HM.out]; exact ⟨fun h => h.2.2, fun h => ⟨hv, h32, h⟩⟩)
    go_enter Try.func101, Try.ntmps101
    go_wp2_with (first
      | (go_at_call 84; refine (s_IsLayout a n cap L _ (HS.out.later (by repeat (first | (with_reducible exact Later.refl _) | (with_reducible exact Hid.out (by assumption)) | (with_reducible refine Later.alloc ?_ _) | (with_reducible refine Later.setCell ?_ (by simp; omega) _) | (with_reducible refine Later.setCell ?_ (by simp) _) | (with_reducible refine Later.drewN ?_ _) | (with_reducible refine Later.drew ?_) | (with_reducible refine Later.trans ?_ (Hid.out (by assumption))))))).mono ?_; rw [hv]; rintro e w1 ⟨rfl, hb⟩; obtain ⟨H, hcc, hff, hzz⟩ := later_facts hb; clear hb; (try simp at hzz))
      | (go_at_call 73; refine (s_Total a n cap L _ (HS.out.later (by repeat (first | (with_reducible exact Later.refl _) | (with_reducible exact Hid.out (by assumption)) | (with_reducible refine Later.alloc ?_ _) | (with_reducible refine Later.setCell ?_ (by simp; omega) _) | (with_reducible refine Later.setCell ?_ (by simp) _) | (with_reducible refine Later.drewN ?_ _) | (with_reducible refine Later.drew ?_) | (with_reducible refine Later.trans ?_ (Hid.out (by assumption)))))) HO.out h24).mono ?_; rintro e w2 ⟨rfl, hb⟩; have H2 := Lib.hid hb; clear hb)
      | (go_at_call 133; refine (s_Rises _ _ _ _ _ _ (sl_lat HF.out (by repeat (first | (with_reducible exact Later.refl _) | (with_reducible exact Hid.out (by assumption)) | (with_reducible refine Later.alloc ?_ _) | (with_reducible refine Later.setCell ?_ (by simp; omega) _) | (with_reducible refine Later.setCell ?_ (by simp) _) | (with_reducible refine Later.drewN ?_ _) | (with_reducible refine Later.drew ?_) | (with_reducible refine Later.trans ?_ (Hid.out (by assumption))))))).mono ?_; rintro e w' ⟨rfl, qq, rfl⟩))
    go_ret
    exact ⟨ret_b (by rw [HT.out]), (by repeat (first | (with_reducible exact Later.refl _) | (with_reducible exact Hid.out (by assumption)) | (with_reducible refine Later.alloc ?_ _) | (with_reducible refine Later.setCell ?_ (by simp; omega) _) | (with_reducible refine Later.setCell ?_ (by simp) _) | (with_reducible refine Later.drewN ?_ _) | (with_reducible refine Later.drew ?_) | (with_reducible refine Later.trans ?_ (Hid.out (by assumption)))))⟩
  · have HT : Hid (senB L F = false) := Lib.hid (by rw [senB_no, HM.out]; omega)
    go_enter Try.func101, Try.ntmps101
    go_wp2_with (first
      | (go_at_call 84; refine (s_IsLayout a n cap L _ (HS.out.later (by repeat (first | (with_reducible exact Later.refl _) | (with_reducible exact Hid.out (by assumption)) | (with_reducible refine Later.alloc ?_ _) | (with_reducible refine Later.setCell ?_ (by simp; omega) _) | (with_reducible refine Later.setCell ?_ (by simp) _) | (with_reducible refine Later.drewN ?_ _) | (with_reducible refine Later.drew ?_) | (with_reducible refine Later.trans ?_ (Hid.out (by assumption))))))).mono ?_; rw [hv]; rintro e w1 ⟨rfl, hb⟩; obtain ⟨H, hcc, hff, hzz⟩ := later_facts hb; clear hb; (try simp at hzz)))
    go_ret
    exact ⟨ret_b (by rw [HT.out]), (by repeat (first | (with_reducible exact Later.refl _) | (with_reducible exact Hid.out (by assumption)) | (with_reducible refine Later.alloc ?_ _) | (with_reducible refine Later.setCell ?_ (by simp; omega) _) | (with_reducible refine Later.setCell ?_ (by simp) _) | (with_reducible refine Later.drewN ?_ _) | (with_reducible refine Later.drew ?_) | (with_reducible refine Later.trans ?_ (Hid.out (by assumption)))))⟩
end Go.Proofs.Ytehinlecppbjeaa
namespace Go.Proofs.Ytehinlecppbjeaa
set_option linter.unusedSimpArgs false
set_option linter.unusedVariables false
/-- an interval comes to a block -/
def inB (L : List Sg) (F : List Int) (a z : Int) (b : Nat) : Bool := decide (max a (stK L F b) ≤ min z (stK L F b + lnK L F b - 1))
/-- a train occupies a block -/
def ocB (L : List Sg) (F : List Int) (p n : Int) (b : Nat) : Bool := inB L F (rearK (totL L) p n) (min (rearK (totL L) p n + n - 1) (totL L - 1)) b || inB L F 0 (rearK (totL L) p n + n - 1 - totL L) b
/-- where blocks lie -/
theorem blk_at {L : List Sg} {F : List Int} (h : bkB L F = true) (b : Nat) (hb : b < F.length) : 0 ≤ stK L F b ∧ 1 ≤ lnK L F b ∧ stK L F b + lnK L F b ≤ totL L := by
  obtain ⟨hl, hk⟩ := bkB_lay h
  obtain ⟨_, _, ho, _⟩ := (layB_iff L).1 hl
  obtain ⟨g1, g2, g3⟩ := blk_bd hk b hb
  have a1 := upL_mono L 0 (fstK F b) (by omega) (by omega) ho
  have a2 := upL_mono L (fstK F b + 1) (endK L F b) (by omega) g3 ho
  have a3 := upL_mono L (endK L F b) L.length g3 (Nat.le_refl _) ho
  have a4 := upL_succ L (fstK F b) (by omega)
  have a5 := (sgB_iff _).1 (okB_at L L.length (fstK F b) (Nat.le_refl _) (by omega) ho)
  rw [upL_0] at a1
  have := stK_end L F b
  unfold lnK stK totL at *
  omega
theorem blk_apart {L : List Sg} {F : List Int} (h : bkB L F = true) {i j : Nat} (hij : i < j) (hj : j < F.length) : stK L F i + lnK L F i ≤ stK L F j := by
  obtain ⟨hl, hk⟩ := bkB_lay h
  obtain ⟨_, _, ho, _⟩ := (layB_iff L).1 hl
  obtain ⟨_, _, h3, _⟩ := (bkC_iff L F).1 hk
  rw [stK_end, endK_next i (by omega)]
  have g := ris_mono h3 (i + 1) j (by omega) hj
  obtain ⟨g1, g2, g3⟩ := blk_bd hk j hj
  exact upL_mono L _ _ g (by omega) ho
/-- the block of a position -/
theorem blk_some {L : List Sg} {F : List Int} (h : bkB L F = true) {p : Int} (hp : 0 ≤ p ∧ p < totL L) : ∃ k b, IsAt L p k ∧ IsB L F k b ∧ stK L F b ≤ p ∧ p < stK L F b + lnK L F b := by
  obtain ⟨hl, hk⟩ := bkB_lay h
  obtain ⟨k, hat⟩ := isAt_some L p hp.1 L.length (Nat.le_refl _) hp.2
  obtain ⟨b, hb⟩ := isB_some hk hat.1
  refine ⟨k, b, hat, hb, ?_⟩
  have e := (hasP_of hl hk hat hb.1).2 hb
  unfold hasP sec at e
  simpa using e
theorem oc_spec {L : List Sg} {F : List Int} (h : bkB L F = true) {p n : Int} (hp : 0 ≤ p ∧ p < totL L) (hn : 1 ≤ n ∧ n ≤ totL L) {rb b : Nat} (hrb : rb < F.length) (hr : stK L F rb ≤ rearK (totL L) p n ∧ rearK (totL L) p n < stK L F rb + lnK L F rb) (hb : b < F.length) :
    ocB L F p n b = (decide ((b : Int) = (rb : Int)) || decide ((p - stK L F b) % totL L < n)) := by
  obtain ⟨x1, x2, x3⟩ := blk_at h b hb
  have hc := rear_cases hp hn
  have ha := ahead_cases (T := totL L) (a := stK L F b) (b := p) ⟨x1, by omega⟩ hp
  unfold ahead at ha
  unfold ocB inB
  by_cases e : b = rb
  · subst e
    have : max (rearK (totL L) p n) (stK L F b) ≤ min (min (rearK (totL L) p n + n - 1) (totL L - 1)) (stK L F b + lnK L F b - 1) := by omega
    simp only [this, decide_true, Bool.true_or]
  · have hap : stK L F b + lnK L F b ≤ stK L F rb ∨ stK L F rb + lnK L F rb ≤ stK L F b := by
      by_cases c : b < rb
      · exact .inl (blk_apart h c hrb)
      · exact .inr (blk_apart h (by omega) hb)
    have e2 : ¬ ((b : Int) = (rb : Int)) := by omega
    rw [Bool.eq_iff_iff]
    simp only [Bool.or_eq_true, decide_eq_true_eq, e2, false_or]
    rcases hc with ⟨c, e⟩ | ⟨c, e⟩ <;> rcases ha with ⟨c2, e3⟩ | ⟨c2, e3⟩ <;> rw [e3] <;> rw [e] at hr ⊢ <;> omega
theorem oc_front {L : List Sg} {F : List Int} (h : bkB L F = true) {p n : Int} (hp : 0 ≤ p ∧ p < totL L) (hn : 1 ≤ n ∧ n ≤ totL L) {b : Nat} (hb : stK L F b ≤ p ∧ p < stK L F b + lnK L F b) : ocB L F p n b = true := by
  have hc := rear_cases hp hn
  unfold ocB inB
  rw [Bool.or_eq_true, decide_eq_true_eq, decide_eq_true_eq]
  rcases hc with ⟨c, e⟩ | ⟨c, e⟩ <;> rw [e] <;> omega
/-- the blocks that a train occupies, of the first k -/
def ocK (L : List Sg) (F : List Int) (p n : Int) (k : Nat) : List Int := ((List.range k).filter (ocB L F p n)).map fun (i : Nat) => (i : Int)
theorem ocK_0 (L : List Sg) (F : List Int) (p n : Int) : ocK L F p n 0 = [] := by simp [ocK]
theorem ocK_succ (L : List Sg) (F : List Int) (p n : Int) (k : Nat) : ocK L F p n (k + 1) = if ocB L F p n k = true then ocK L F p n k ++ [(k : Int)] else ocK L F p n k := by
  unfold ocK; rw [List.range_succ, List.filter_append, List.map_append]
  by_cases h1 : ocB L F p n k = true <;> simp [h1]
theorem ocK_len (L : List Sg) (F : List Int) (p n : Int) (k : Nat) : (ocK L F p n k).length ≤ k := by
  unfold ocK; rw [List.length_map]
  exact Nat.le_trans (List.length_filter_le _ _) (by simp)
theorem ocK_mem (L : List Sg) (F : List Int) (p n : Int) (k : Nat) (x : Int) : x ∈ ocK L F p n k ↔ ∃ b : Nat, x = (b : Int) ∧ b < k ∧ ocB L F p n b = true := by
  unfold ocK
  rw [List.mem_map]
  constructor
  · rintro ⟨b, hb, rfl⟩
    rw [List.mem_filter, List.mem_range] at hb
    exact ⟨b, rfl, hb⟩
  · rintro ⟨b, rfl, hb⟩
    exact ⟨b, by rw [List.mem_filter, List.mem_range]; exact hb, rfl⟩
theorem ocK_rng (L : List Sg) (F : List Int) (p n : Int) (k : Nat) : ∀ x ∈ ocK L F p n k, 0 ≤ x ∧ x < k := by
  intro x hx
  obtain ⟨b, rfl, hb, _⟩ := (ocK_mem L F p n k x).1 hx
  omega
def ocE (L : List Sg) (F : List Int) (p n : Int) : Int := if bkB L F = true then trE L p n else 1
def ocV (L : List Sg) (F : List Int) (p n : Int) : List Int := if ocE L F p n = 0 then ocK L F p n F.length else []
theorem ocE_ok {L : List Sg} {F : List Int} {p n : Int} (h : ocE L F p n = 0) : bkB L F = true ∧ trE L p n = 0 := by
  unfold ocE at h; split at h
  · exact ⟨by assumption, h⟩
  · omega
/-- the loads behind the first i trains -/
def ldN (L : List Sg) (F : List Int) (P : List Int) (n : Int) (i b : Nat) : Int := ((((List.range i).filter fun k => ocB L F (gx P k) n b).length : Nat) : Int)
def ldK (L : List Sg) (F : List Int) (P : List Int) (n : Int) (i : Nat) : List Int := (List.range F.length).map (ldN L F P n i)
def ldE (L : List Sg) (F : List Int) (P : List Int) (n : Int) : Int := if bkB L F = true then (if P.length ≤ 4 then (if trsB (totL L) n P = true then 0 else 2) else 3) else 1
def ldV (L : List Sg) (F : List Int) (P : List Int) (n : Int) : List Int := if ldE L F P n = 0 then ldK L F P n P.length else []
theorem ldE_ok {L : List Sg} {F P : List Int} {n : Int} (h : ldE L F P n = 0) : bkB L F = true ∧ P.length ≤ 4 ∧ trsB (totL L) n P = true := by
  unfold ldE at h; split at h
  · split at h
    · split at h
      · exact ⟨by assumption, by assumption, by assumption⟩
      · omega
    · omega
  · omega
theorem ldN_0 (L : List Sg) (F P : List Int) (n : Int) (b : Nat) : ldN L F P n 0 b = 0 := by simp [ldN]
theorem ldN_succ (L : List Sg) (F P : List Int) (n : Int) (i b : Nat) : ldN L F P n (i + 1) b = ldN L F P n i b + (if ocB L F (gx P i) n b = true then 1 else 0) := by
  unfold ldN; rw [List.range_succ, List.filter_append, List.length_append]
  by_cases h : ocB L F (gx P i) n b = true <;> simp [h]
theorem ldN_bd (L : List Sg) (F P : List Int) (n : Int) (i b : Nat) : 0 ≤ ldN L F P n i b ∧ ldN L F P n i b ≤ i := by
  unfold ldN
  have := List.length_filter_le (fun k => ocB L F (gx P k) n b) (List.range i)
  rw [List.length_range] at this
  omega
theorem ldK_len (L : List Sg) (F P : List Int) (n : Int) (i : Nat) : (ldK L F P n i).length = F.length := by simp [ldK]
theorem ldK_gx (L : List Sg) (F P : List Int) (n : Int) (i b : Nat) (hb : b < F.length) : gx (ldK L F P n i) b = ldN L F P n i b := by
  rw [gx_of _ b (by rw [ldK_len]; exact hb)]; simp [ldK]
end Go.Proofs.Ytehinlecppbjeaa
