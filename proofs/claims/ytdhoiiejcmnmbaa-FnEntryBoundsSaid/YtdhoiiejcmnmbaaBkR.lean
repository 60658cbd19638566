/- Contracts of chapter 4: merged blocks, of the program. -/
import Derived.Test.YtdhoiiejcmnmbaaBkL
import Derived.Test.YtdhoiiejcmnmbaaBkT
import Derived.Test.YtdhoiiejcmnmbaaSgO
import Derived.Laws.CopyOwn
import Derived.Deep.RegionLaw
import Derived.Deep.DeepMust
namespace Go.Proofs.Ytdhoiiejcmnmbaa
open Go.RowKit
set_option maxHeartbeats 4000000
set_option linter.unusedVariables false
set_option linter.unusedSimpArgs false
/-- what hands back merged blocks leaves: a list of its own, and a code -/
def Mrgd (w : World) (L : List Sg) (F : List Int) (p : Int) (e : Ending) (w' : World) : Prop :=
  ∃ v, e = .returned (.tuple #[v, .int .i64 (mrgE L F p)]) ∧ Own w' w.heap.size v (mrgV L F p) ∧ Later w w'
theorem mrg_bad {L : List Sg} {F : List Int} {p : Int} (h : fndE L F (isNo p) ≠ 0) : mrgE L F p = fndE L F (isNo p) ∧ mrgV L F p = [] := by
  have e : mrgE L F p = fndE L F (isNo p) := by unfold mrgE; rw [if_neg h]
  exact ⟨e, by unfold mrgV; rw [e, if_neg h]⟩
theorem mrg_state {L : List Sg} {F : List Int} {b : Nat} {m : Nat} (h : fndE L F (isNo (b : Int)) = 0) (hm : F.length = m) (hs : b + 1 = m ∨ m = 2) : mrgE L F b = 5 ∧ mrgV L F b = [] := by
  have e : mrgE L F b = 5 := by unfold mrgE; rw [if_pos h, if_pos (by omega)]
  exact ⟨e, by unfold mrgV; rw [e]; rfl⟩
theorem mrg_ok {L : List Sg} {F : List Int} {b : Nat} {m : Nat} (h : fndE L F (isNo (b : Int)) = 0) (hm : F.length = m) (hs : ¬ (b + 1 = m ∨ m = 2)) : mrgE L F b = 0 ∧ mrgV L F b = F.take (b + 1) ++ F.drop (b + 2) := by
  have e : mrgE L F b = 0 := by unfold mrgE; rw [if_pos h, if_neg (by omega)]
  exact ⟨e, by unfold mrgV; rw [e]; rfl⟩
theorem size_i64 : (Try.prog.info? 2).map (·.size) = some 1 := by kernel_rfl
/-- the cells of a part of a list -/
def ptV (F : List Int) (k c : Nat) : List Value := ((F.drop k).take c).map (Value.int .i64)
theorem ptV_len (F : List Int) (k c : Nat) (h : k + c ≤ F.length) : (ptV F k c).length = c := by unfold ptV; simp; omega
theorem ptV_one (F : List Int) (k c : Nat) : ∀ v ∈ ptV F k c, v.oneCell' = true := by
  intro v hv; unfold ptV at hv; obtain ⟨x, _, rfl⟩ := List.mem_map.1 hv; rfl
theorem ptV_src {w : World} {bF oF m : Nat} {F : List Int} (h : Sl w (some ⟨bF, oF, none⟩) m F) (k c o : Nat) (ho : o = oF + k) : ∀ j v, (ptV F k c)[j]? = some v → w.cell? (Addr.add ⟨bF, o, none⟩ j) = some v := by
  intro j v hv
  subst ho
  unfold ptV at hv
  rw [List.getElem?_map] at hv
  cases hx : ((F.drop k).take c)[j]? with
  | none => rw [hx] at hv; cases hv
  | some x =>
    rw [hx] at hv
    have hv : Value.int .i64 x = v := Option.some.inj hv
    subst hv
    have hj : j < c := by
      by_cases q : j < c
      · exact q
      · rw [List.getElem?_take, if_neg q] at hx; cases hx
    rw [List.getElem?_take, if_pos hj, List.getElem?_drop] at hx
    have hl : k + j < F.length := (List.getElem?_eq_some_iff.1 hx).1
    obtain ⟨b', o', hbb, hc⟩ := h.at (k + j) (by rw [← h.1]; exact hl)
    simp only [Option.some.injEq, Addr.mk.injEq, and_true] at hbb
    obtain ⟨rfl, rfl⟩ := hbb
    rw [Addr.add_lit, show oF + k + j = oF + (k + j) by omega, hc]
    unfold gx
    rw [List.getD_eq_getElem?_getD, hx]; rfl
/-- cells are copied into a row of the call's own -/
theorem copy_splice {w0 w : World} {g o dLen dCap sLen sCap : Nat} {ad : Addr} {cl cs : List Value} (hg : w.heap[g]? = some (.cells cl.toArray 2 (0, 0))) (hn : cs.length = Nat.min sLen dLen)
    (hsrc : ∀ j v, cs[j]? = some v → w.cell? (ad.add j) = some v) (hfit : o + cs.length ≤ cl.length) (h1 : ∀ v ∈ cs, v.oneCell' = true) (hb : Later w0 w) (hgb : w0.heap.size ≤ g) :
    ∃ w', (Builtin.copy_ #[42, 42] 3 #[.slice (some ⟨g, o, none⟩) dLen dCap, .slice (some ad) sLen sCap]).run Try.prog w = .ok (goInt cs.length) w' ∧ Hid (w'.heap[g]? = some (.cells (splice cl o cs).toArray 2 (0, 0))) ∧ Later w0 w' := by
  have h := run_copy_row (P := Try.prog) w 42 42 3 2 g o dLen dCap ad sLen sCap cl.toArray 2 cs Try.underlying42 size_i64 hg hn hsrc (by simpa using hfit) h1
  refine ⟨_, h, Lib.hid ?_, below_setRow hb hgb _⟩
  simpa [splice] using setRow_heap w g _ _ _ _ hg
/-- the cells of a row that was made -/
theorem made_cells {w : World} {base g n : Nat} {T : TypeId} {xs : List Value} (h : w.ownsRow base T 1 (.slice (some ⟨g, 0, none⟩) n n) n xs) : ∃ cl : List Value, w.heap[g]? = some (.cells cl.toArray T (0, 0)) ∧ cl.length = n ∧ n ≤ maxLen ∧ base ≤ g := by
  rcases h.2 with ⟨e, _⟩ | ⟨g', cap, cur, e, hb, hg, hn, hm, hsz, _⟩
  · cases e
  · cases e
    exact ⟨cur.toList, by simpa using hg, by simpa using hsz, hm, hb⟩
/-- a row whose cells are known is a list of the call's own -/
theorem own_of_cells {w : World} {base g n : Nat} {cl : List Value} {l : List Int} (hg : w.heap[g]? = some (.cells cl.toArray 2 (0, 0))) (hb : base ≤ g) (hn : l.length = n) (hm : n ≤ maxLen) (hc : cl = l.map (Value.int .i64)) (hr : ∀ x ∈ l, InR x) : Own w base (.slice (some ⟨g, 0, none⟩) n n) l := by
  subst hn
  subst hc
  exact ⟨⟨by simp, .inr ⟨g, l.length, _, rfl, hb, hg, Nat.le_refl _, hm, by simp, by simp [List.take_of_length_le]⟩⟩, hr⟩
theorem splice_two {cl : List Value} {F : List Int} {m b : Nat} (hl : cl.length = m - 1) (hm : F.length = m) (hb : b + 1 < m) : splice (splice cl 0 (ptV F 0 (b + 1))) (b + 1) (ptV F (b + 2) (m - (b + 2))) = (F.take (b + 1) ++ F.drop (b + 2)).map (Value.int .i64) := by
  have e1 : (ptV F 0 (b + 1)).length = b + 1 := ptV_len F 0 (b + 1) (by omega)
  have e2 : (ptV F (b + 2) (m - (b + 2))).length = m - (b + 2) := ptV_len F _ _ (by omega)
  unfold splice
  rw [e1, e2]
  have h1 : ptV F 0 (b + 1) = (F.take (b + 1)).map (Value.int .i64) := by unfold ptV; simp
  have h2 : ptV F (b + 2) (m - (b + 2)) = (F.drop (b + 2)).map (Value.int .i64) := by
    unfold ptV; rw [List.take_of_length_le (by simp; omega)]
  have e3 : ((F.take (b + 1)).map (Value.int .i64)).length = b + 1 := by simp; omega
  rw [h1, h2, List.map_append]
  simp only [List.take_zero, List.nil_append, Nat.zero_add]
  rw [List.take_append_of_le_length (by omega), List.take_of_length_le (by omega)]
  have h3 : List.drop (b + 1 + (m - (b + 2))) ((F.take (b + 1)).map (Value.int .i64) ++ List.drop (b + 1) cl) = [] := List.drop_eq_nil_of_le (by simp; omega)
  rw [h3, List.append_nil]
end Go.Proofs.Ytdhoiiejcmnmbaa
