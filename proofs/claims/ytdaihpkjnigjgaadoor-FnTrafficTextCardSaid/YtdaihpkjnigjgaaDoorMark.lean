/- Marks that the exact laws write into lists of int64, and find again. -/
import Derived.Test.YtdaihpkjnigjgaaDoorOwn
namespace Go.Proofs.YtdaihpkjnigjgaaDoor
open Go.RowKit
set_option maxHeartbeats 2000000
set_option linter.unusedVariables false
set_option linter.unusedSimpArgs false
/-- the list l, of which k elements are marked -/
def mrk (l : List Int) (k : Nat) : List Int := (List.range l.length).map fun j => if j < k then 1 + (j : Int) else gx l j
theorem mrk_len (l : List Int) (k : Nat) : (mrk l k).length = l.length := by simp [mrk]
theorem mrk_get (l : List Int) (k j : Nat) (h : j < l.length) : (mrk l k)[j]? = some (if j < k then 1 + (j : Int) else gx l j) := by simp [mrk, h]
theorem mrk_0 (l : List Int) : mrk l 0 = l := by
  apply List.ext_getElem?
  intro j
  by_cases h : j < l.length
  · rw [mrk_get l 0 j h, if_neg (by omega), List.getElem?_eq_getElem h, gx_of l j h]
  · rw [List.getElem?_eq_none (by rw [mrk_len]; omega), List.getElem?_eq_none (by omega)]
theorem mrk_set (l : List Int) (k : Nat) (hk : k < l.length) : (mrk l k).set k (1 + (k : Int)) = mrk l (k + 1) := by
  apply List.ext_getElem?
  intro j
  by_cases h : j < l.length
  · rw [List.getElem?_set, mrk_len, mrk_get l k j h, mrk_get l (k + 1) j h]
    by_cases e : k = j
    · subst e; simp [h]
    · rw [if_neg e]
      by_cases c : j < k
      · rw [if_pos c, if_pos (by omega)]
      · rw [if_neg c, if_neg (by omega)]
  · rw [List.getElem?_eq_none (by simp [mrk]; omega), List.getElem?_eq_none (by simp [mrk]; omega)]
theorem mrk_gx (l : List Int) (k : Nat) (h : k < l.length) : gx (mrk l l.length) k = 1 + (k : Int) := by
  rw [gx_of _ _ (by rw [mrk_len]; exact h)]
  simp [mrk, h]
/-- what marking leaves -/
def Marked (w : World) (base : Nat) (v : Value) (l : List Int) (e : Ending) (w' : World) : Prop :=
  e = .returned (.int .i64 (1 + (l.length : Int))) ∧ Own w' base v (mrk l l.length) ∧ w.grownBy w' v.ownBlock
theorem mrk_in (l : List Int) (k : Nat) (hl : l.length ≤ 1000000000) (h : ∀ x ∈ l, InR x) : ∀ x ∈ mrk l k, InR x := by
  intro x hx
  obtain ⟨j, hj, rfl⟩ := List.mem_map.1 hx
  rw [List.mem_range] at hj
  by_cases c : j < k
  · simp only [if_pos c]; exact ⟨by omega, by omega⟩
  · simp only [if_neg c]; exact h _ (gx_mem l j hj)
theorem l_markInt64S (v : Value) (base : Nat) (l : List Int) (w : World) (ho : Own w base v l) (hl : l.length ≤ 1000000000) :
    Calls Tryd.prog 39 #[v, .int .i64 1] w (Marked w base v l) := by
  have HI := Lib.hid ho.2
  rcases ho.1.2 with ⟨rfl, h0⟩ | ⟨g, cap, cur, rfl, hb, hg, hnc, hcm, _⟩
  · have e : l = [] := List.length_eq_zero_iff.1 h0
    subst e
    have HO := Lib.hid ho
    clear ho h0
    go_enter Tryd.func39, Tryd.ntmps39
    go_wp2
    go_loop [1, 5] (fun m i => i = .int .i64 0 ∧ m = .int .i64 1) (fun _ _ => 0)
    case atStart => exact ⟨rfl, rfl⟩
    case round =>
      obtain ⟨rfl, rfl⟩ := hrel
      go_wp2
      go_ret
      exact ⟨rfl, HO.out, ⟨rfl, rfl, rfl, Nat.le_refl _, fun _ _ _ => rfl⟩⟩
  · have HO := Lib.hid ho.1
    obtain ⟨n, hn⟩ : ∃ n, n = l.length := ⟨_, rfl⟩
    have HN := Lib.hid hn
    have O1 : Hid (w.ownsRow base 2 1 (.slice (some ⟨g, 0, none⟩) n cap) n ((mrk l 0).map (Value.int .i64))) := Lib.hid (by rw [mrk_0, HN.out]; exact ho.1)
    have hl' : n ≤ 1000000000 := by omega
    rw [← hn]
    clear hg hnc hcm ho hb hn hl
    go_enter Tryd.func39, Tryd.ntmps39
    go_wp2
    go_loopw [1, 5] (fun m i wr => ∃ k : Nat, k ≤ n ∧ i = .int .i64 k ∧ m = .int .i64 (1 + (k : Int)) ∧ wr.ownsRow base 2 1 (.slice (some ⟨g, 0, none⟩) n cap) n ((mrk l k).map (Value.int .i64)) ∧ w.grownBy wr (some g)) (fun _ i _ => n - (intOf i).toNat)
    case atStart => exact ⟨0, by omega, rfl, rfl, O1.out, ⟨rfl, rfl, rfl, Nat.le_refl _, fun _ _ _ => rfl⟩⟩
    case round =>
      obtain ⟨k, hk, rfl, rfl, ho, hg⟩ := hrel
      have HR := Lib.hid ho; have HG := Lib.hid hg
      clear ho hg
      by_cases hlt : k < n
      · obtain ⟨z, hz⟩ : ∃ z, wr.cell? ⟨g, k, none⟩ = some (.int .i64 z) := ⟨_, by rw [HR.out.cellAt k (by omega), List.getElem?_map, mrk_get l k k (by rw [← HN.out]; exact hlt)]; rfl⟩
        have hf : wr.frozen? ⟨g, k, none⟩ = false := HR.out.frozenAt k
        have hset : Hid (((mrk l k).map (Value.int .i64)).set k (.int .i64 (1 + (k : Int))) = (mrk l (k + 1)).map (Value.int .i64)) := Lib.hid (by rw [← mrk_set l k (by rw [← HN.out]; exact hlt), List.map_set])
        go_wp2
        go_roundw
        case rel => exact ⟨k + 1, by omega, by go_num, by go_num, by rw [← hset.out]; exact (HR.out.stored k _).1, grown_trans HG.out (HR.out.stored k _).2⟩
        case measure => simp [intOf]; omega
      · obtain rfl : k = n := by omega
        go_wp2
        go_ret
        refine ⟨by rw [← HN.out] <;> rfl, ⟨?_, mrk_in l _ (by rw [← HN.out]; exact hl') HI.out⟩, HG.out⟩
        rw [mrk_len, ← HN.out]; exact HR.out
theorem l_heldInt64S (v : Value) (base : Nat) (l : List Int) (w : World) (ho : Own w base v (mrk l l.length)) (hl : l.length ≤ 1000000000) :
    Calls Tryd.prog 40 #[v, .int .i64 1] w fun e w' => e = .returned (.int .i64 (1 + (l.length : Int))) ∧ w = w' := by
  obtain ⟨a, cap, rfl, hs, _⟩ := ho.sl
  have HS := Lib.hid hs
  have HL := Lib.hid (mrk_len l l.length)
  rw [mrk_len]
  obtain ⟨n, hn⟩ : ∃ n, n = l.length := ⟨_, rfl⟩
  have HN := Lib.hid hn
  rw [← hn] at hl ⊢
  clear hs ho hn
  go_enter Tryd.func40, Tryd.ntmps40
  go_wp2
  go_loop [1, 5] (fun m i => ∃ k : Nat, k ≤ n ∧ i = .int .i64 k ∧ m = .int .i64 (1 + (k : Int))) (fun _ i => n - (intOf i).toNat)
  case atStart => exact ⟨0, by omega, rfl, rfl⟩
  case round =>
    obtain ⟨k, hk, rfl, rfl⟩ := hrel
    by_cases hlt : k < n
    · obtain ⟨b, off, rfl, hc⟩ := HS.out.at k (by rw [HL.out, ← HN.out]; exact hlt)
      rw [mrk_gx l k (by rw [← HN.out]; exact hlt)] at hc
      go_wp2
      go_round
      case rel => exact ⟨k + 1, by omega, by go_num, by go_num⟩
      case measure => simp [intOf]; omega
    · obtain rfl : k = n := by omega
      go_wp2
      go_ret
      exact ⟨rfl, rfl⟩
end Go.Proofs.YtdaihpkjnigjgaaDoor
