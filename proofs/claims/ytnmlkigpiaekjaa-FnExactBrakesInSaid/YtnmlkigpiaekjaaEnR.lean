/- Contracts of chapter 6: the segments of a run, of the program. -/
import Derived.Test.YtnmlkigpiaekjaaEnP
import Derived.Test.YtnmlkigpiaekjaaSgI
import Derived.Test.YtnmlkigpiaekjaaTrI
import Derived.Test.YtnmlkigpiaekjaaOwnS
import Derived.Deep.RegionLaw
namespace Go.Proofs.Ytnmlkigpiaekjaa
open Go.RowKit
set_option maxHeartbeats 4000000
set_option linter.unusedVariables false
set_option linter.unusedSimpArgs false
/-- append(out, M...) as one step of a region that draws its order: M's cells lie where x points -/
theorem stepS {ops : Array Oper} {o : Oper} {a : Act} {W : World} {K : Act → World → Prop} {Q : Exit → Act → World → Prop} {E : Prop} (hgd : o.guard = none) (s x : Operand)
    (ho : o.op = .call { callee := .builtin .append, args := #[s, x], argTypes := #[24, 24] })
    (base : Nat) (v : Value) (L M : List Sg) (ad : Addr) (m c : Nat) (hown : OwnS W base v L) (hcell : ∀ j u, (sgVals M)[j]? = some u → W.cell? (ad.add j) = some u) (hm : M.length = m) (hy : ∀ x ∈ M, x.In) (hs : a.eval s = v) (hx : a.eval x = .slice (some ad) m c) (hl : L.length + m ≤ 1000000000) (hbase : base ≤ W.heap.size)
    (h : ∀ v' w', OwnS w' base v' (L ++ M) → W.grownBy w' v.ownBlock → K (a.put o.dst v') w') : if Region.wanted o (yielded ops a.tmps) = true then Oper.wp Try.prog o a W K Q else E := by
  have hw : Region.wanted o (yielded ops a.tmps) = true := by simp [Region.wanted, hgd]
  rw [if_pos hw]
  obtain ⟨i0, hi, hz0, hz1, hz2⟩ := info_parts info_sg
  subst hm
  obtain ⟨v', w', hrun, r1, r2, _⟩ := run_append_own (P := Try.prog) W base 24 o.type 77 i0 (.agg #[.int .i64 0, .int .i64 0, .int .i64 0, .int .i64 0, .int .i64 0, .int .i64 0, .int .i64 0]) 7 56 Try.underlying24 hi hz0 hz1 hz2 rfl (by decide) v L.length _ hown.1 ad M.length c (sgVals M) (by rw [sgVals_len]) hcell (fun u hu => by
    obtain ⟨j, hj, e⟩ := List.getElem_of_mem hu
    have hf := sgVals_flt M j (by rw [sgVals_len] at hj; exact hj)
    rw [List.getElem?_eq_getElem hj, e] at hf
    cases hf; rfl) (by unfold maxLen; omega) (by omega) hbase
  unfold Oper.wp
  simp [execOp, ho, resolve, invoke, builtin, hs, hx, hrun, Result.andThen]
  refine h v' w' ⟨by rw [sgVals_app, List.length_append]; exact r1, ?_⟩ r2
  intro z hz
  rcases List.mem_append.1 hz with hz | hz
  · exact hown.2 z hz
  · exact hy z hz
theorem cells_alloc (X : World) (l : List Value) (T : TypeId) : ∀ j u, l[j]? = some u → (X.alloc (.cells l.toArray T)).cell? ((⟨X.heap.size, 0, none⟩ : Addr).add j) = some u := by
  intro j u hu
  rw [Addr.add_lit, Nat.zero_add, cell_of_row _ _ j _ T (0, 0) (heap_alloc_new X _)]
  simpa using hu
/-- what a run leaves -/
def GivesS (w : World) (R : List Sg) (c : Int) (e : Ending) (w' : World) : Prop :=
  ∃ v, e = .returned (.tuple #[v, .int .i64 c]) ∧ OwnS w' w.heap.size v R ∧ Later w w'
set_option maxRecDepth 100000 in
theorem i_segmentsAlong (a : Option Addr) (n cap : Nat) (L : List Sg) (f c : Int) (w : World) (hs : Sgs w a n L) :
    Calls Try.prog 43 #[.agg #[.slice a n cap], .int .i64 f, .int .i64 c] w (GivesS w (sgV L f c) (sgE L f c)) := by
  have HS := Lib.hid hs
  have HL := Lib.hid hs.1
  have hn := hs.2.1
  clear hs
  cases hv : layB L
  · have E1 : Hid (sgE L f c = 1) := Lib.hid (by unfold sgE; rw [hv]; rfl)
    have E2 : Hid (sgV L f c = []) := Lib.hid (by unfold sgV; rw [E1.out]; rfl)
    go_enter Try.func43, Try.ntmps43
    go_wp2_with fail
    refine (i_IsLayout a n cap L _ (HS.out.later (by repeat (first | (with_reducible exact Later.refl _) | (with_reducible exact Hid.out (by assumption)) | (with_reducible refine Later.alloc ?_ _) | (with_reducible refine Later.setCell ?_ (by simp; omega) _) | (with_reducible refine Later.setCell ?_ (by simp) _) | (with_reducible refine Later.drewN ?_ _) | (with_reducible refine Later.drew ?_) | (with_reducible refine Later.trans ?_ (Hid.out (by assumption))))))).mono ?_
    rw [hv]
    rintro e w1 ⟨rfl, hb⟩
    have H1 := Lib.hid hb
    clear hb
    go_wp2_with fail
    go_ret2
    exact ⟨.slice none 0 0, by rw [E1.out]; rfl, by rw [E2.out]; exact ownS_none _ _, (by repeat (first | (with_reducible exact Later.refl _) | (with_reducible exact Hid.out (by assumption)) | (with_reducible refine Later.alloc ?_ _) | (with_reducible refine Later.setCell ?_ (by simp; omega) _) | (with_reducible refine Later.setCell ?_ (by simp) _) | (with_reducible refine Later.drewN ?_ _) | (with_reducible refine Later.drew ?_) | (with_reducible refine Later.trans ?_ (Hid.out (by assumption)))))⟩
  · by_cases hr : 0 ≤ f ∧ f < (n : Int) ∧ 0 ≤ c ∧ c ≤ 24
    · obtain ⟨f', rfl⟩ : ∃ f' : Nat, f = (f' : Int) := ⟨f.toNat, by omega⟩
      obtain ⟨c', rfl⟩ : ∃ c' : Nat, c = (c' : Int) := ⟨c.toNat, by omega⟩
      have E1 : Hid (sgE L (f' : Int) (c' : Int) = 0) := Lib.hid (by unfold sgE; rw [hv, if_pos rfl, HL.out, if_pos hr])
      have E2 : Hid (sgV L (f' : Int) (c' : Int) = runS L f' c') := Lib.hid (by unfold sgV; rw [E1.out]; rfl)
      obtain ⟨_, h2, _, h4⟩ := hr
      have h24 : n ≤ 24 := by have := (layB_iff L).1 hv; have := HL.out; omega
      have hf : f' < n := by omega
      have hnf : ¬ n ≤ f' := by omega
      have hc : c' ≤ 24 := by omega
      clear h4
      go_enter Try.func43, Try.ntmps43
      go_wp2_with fail
      refine (i_IsLayout a n cap L _ (HS.out.later (by repeat (first | (with_reducible exact Later.refl _) | (with_reducible exact Hid.out (by assumption)) | (with_reducible refine Later.alloc ?_ _) | (with_reducible refine Later.setCell ?_ (by simp; omega) _) | (with_reducible refine Later.setCell ?_ (by simp) _) | (with_reducible refine Later.drewN ?_ _) | (with_reducible refine Later.drew ?_) | (with_reducible refine Later.trans ?_ (Hid.out (by assumption))))))).mono ?_
      rw [hv]
      rintro e w1 ⟨rfl, hb⟩
      have H1 := Lib.hid hb
      have hc1 : w1.cell? ⟨w.heap.size, 0, none⟩ = some (.slice a n cap) := by rw [hb.cell (p := ⟨w.heap.size, 0, none⟩) (by simp)]; simp
      have hz1 : w.heap.size < w1.heap.size := sg_cell_lt hc1
      clear hb
      go_wp2_with fail
      go_loopw [8, 31] (fun v i wr => ∃ k : Nat, k ≤ c' ∧ i = .int .i64 k ∧ OwnS wr (w.heap.size + 1) v (runS L f' k) ∧ wr.cell? ⟨w.heap.size, 0, none⟩ = some (.slice a n cap) ∧ Later w wr) (fun _ i _ => c' - (intOf i).toNat)
      case atStart => exact ⟨0, by omega, rfl, by rw [runS_0]; exact ownS_none _ _, hc1, (by repeat (first | (with_reducible exact Later.refl _) | (with_reducible exact Hid.out (by assumption)) | (with_reducible refine Later.alloc ?_ _) | (with_reducible refine Later.setCell ?_ (by simp; omega) _) | (with_reducible refine Later.setCell ?_ (by simp) _) | (with_reducible refine Later.drewN ?_ _) | (with_reducible refine Later.drew ?_) | (with_reducible refine Later.trans ?_ (Hid.out (by assumption)))))⟩
      case round =>
        have hf24 : f' ≤ 24 := by omega
        have hn0 : ¬ n = 0 := by omega
        clear hc1 hz1 hf h2
        obtain ⟨k, hk, rfl, ho, hc1, hlw⟩ := hrel
        have HO := Lib.hid ho; have HW := Lib.hid hlw
        have hz1 : w.heap.size < wr.heap.size := sg_cell_lt hc1
        clear ho hlw
        by_cases hlt : k < c'
        · obtain ⟨r, hr⟩ : ∃ r, r = (f' + k) % n := ⟨_, rfl⟩
          have hrn : r < n := by rw [hr]; exact Nat.mod_lt _ (by omega)
          have HI := fun W => i_indexAlong a n cap f' k r W (by omega) h24 hf24 (by omega) hr
          have HR : Hid (runS L f' (k + 1) = runS L f' k ++ [sx L r]) := Lib.hid (by rw [runS_succ, HL.out, ← hr])
          obtain ⟨b, off, rfl, hb, hcc⟩ := (HS.out.later HW.out).at r hrn
          have hin := HS.out.in r hrn
          obtain ⟨c0, c1, c2, c3, c4, c5, c6⟩ := hcc
          clear hr
          go_wp2_with fail
          go_region_law (first
            | (refine stepS rfl (.tmp 34) (.tmp 43) rfl (w.heap.size + 1) _ (runS L f' k) [sx L r] _ 1 1 (HO.out.below (by repeat (first | (with_reducible exact Later.refl _) | (with_reducible exact Hid.out (by assumption)) | (with_reducible refine Later.alloc ?_ _) | (with_reducible refine Later.setCell ?_ (by simp; omega) _) | (with_reducible refine Later.setCell ?_ (by simp) _) | (with_reducible refine Later.drewN ?_ _) | (with_reducible refine Later.drew ?_) | (with_reducible refine Later.trans ?_ (Hid.out (by assumption)))))) (cells_alloc _ _ _) rfl (fun x hx => by simp at hx; subst hx; exact hin) (by simp [Act.eval, Act.put]) (by simp [Act.eval, Act.put]) (by rw [runS_len]; omega) (by simp; omega) ?_; intro v' w4 ho4 hg4; have O4 := Lib.hid ho4; have G4 := Lib.hid hg4; clear ho4 hg4)
            | (go_simp; go_at_call 68; refine (HI _).mono ?_; rintro e w7 ⟨rfl, hb7⟩; have H7 := Lib.hid hb7; clear hb7; obtain ⟨d0, d1, d2, d3, d4, d5, d6⟩ := sgs_at (HS.out.later (show Later w w7 from (by repeat (first | (with_reducible exact Later.refl _) | (with_reducible exact Hid.out (by assumption)) | (with_reducible refine Later.alloc ?_ _) | (with_reducible refine Later.setCell ?_ (by simp; omega) _) | (with_reducible refine Later.setCell ?_ (by simp) _) | (with_reducible refine Later.drewN ?_ _) | (with_reducible refine Later.drew ?_) | (with_reducible refine Later.trans ?_ (Hid.out (by assumption))))))) r hrn; have hc7 : w7.cell? ⟨w.heap.size, 0, none⟩ = some (.slice (some ⟨b, off, none⟩) n cap) := ((show Later wr w7 from (by repeat (first | (with_reducible exact Later.refl _) | (with_reducible exact Hid.out (by assumption)) | (with_reducible refine Later.alloc ?_ _) | (with_reducible refine Later.setCell ?_ (by simp; omega) _) | (with_reducible refine Later.setCell ?_ (by simp) _) | (with_reducible refine Later.drewN ?_ _) | (with_reducible refine Later.drew ?_) | (with_reducible refine Later.trans ?_ (Hid.out (by assumption)))))).cell (p := ⟨w.heap.size, 0, none⟩) hz1).trans hc1; have hz7 : w.heap.size < w7.heap.size := sg_cell_lt hc7))
          all_goals
            have H4 : Hid (Later w w4) := Lib.hid (Below.grown (show Later w _ from (by repeat (first | (with_reducible exact Later.refl _) | (with_reducible exact Hid.out (by assumption)) | (with_reducible refine Later.alloc ?_ _) | (with_reducible refine Later.setCell ?_ (by simp; omega) _) | (with_reducible refine Later.setCell ?_ (by simp) _) | (with_reducible refine Later.drewN ?_ _) | (with_reducible refine Later.drew ?_) | (with_reducible refine Later.trans ?_ (Hid.out (by assumption)))))) G4.out (by simp; omega) (fun j e => by have := (HO.out.lt j e).1; omega))
            have hc4 : w4.cell? ⟨w.heap.size, 0, none⟩ = some (.slice (some ⟨b, off, none⟩) n cap) := G4.out.cell (((show Later wr _ from (by repeat (first | (with_reducible exact Later.refl _) | (with_reducible exact Hid.out (by assumption)) | (with_reducible refine Later.alloc ?_ _) | (with_reducible refine Later.setCell ?_ (by simp; omega) _) | (with_reducible refine Later.setCell ?_ (by simp) _) | (with_reducible refine Later.drewN ?_ _) | (with_reducible refine Later.drew ?_) | (with_reducible refine Later.trans ?_ (Hid.out (by assumption)))))).cell (p := ⟨w.heap.size, 0, none⟩) hz1).trans hc1) (fun e => by have := (HO.out.lt _ e.symm).1; simp at this; omega)
            clear c0 c1 c2 c3 c4 c5 c6 d0 d1 d2 d3 d4 d5 d6 hc7 hz7
            go_wp2_with fail
            go_roundw
            case rel => exact ⟨k + 1, by omega, by go_num, by rw [HR.out]; exact O4.out, hc4, H4.out⟩
            case measure => simp [intOf]; omega
        · obtain rfl : k = c' := by omega
          go_wp2_with fail
          go_ret2
          exact ⟨_, by rw [E1.out]; rfl, by rw [E2.out]; exact HO.out.mono (by omega), HW.out⟩
    · have E1 : Hid (sgE L f c = 2) := Lib.hid (by unfold sgE; rw [hv, if_pos rfl, HL.out, if_neg hr])
      have E2 : Hid (sgV L f c = []) := Lib.hid (by unfold sgV; rw [E1.out]; rfl)
      have hr2 : f < 0 ∨ (0 ≤ f ∧ (n : Int) ≤ f) ∨ (0 ≤ f ∧ f < (n : Int) ∧ c < 0) ∨ (0 ≤ f ∧ f < (n : Int) ∧ 0 ≤ c ∧ 24 < c) := by omega
      clear hr
      rcases hr2 with h1 | ⟨h1, h2⟩ | ⟨h1, h2, h3⟩ | ⟨h1, h2, h3, h4⟩
      all_goals
        go_enter Try.func43, Try.ntmps43
        go_wp2_with fail
        refine (i_IsLayout a n cap L _ (HS.out.later (by repeat (first | (with_reducible exact Later.refl _) | (with_reducible exact Hid.out (by assumption)) | (with_reducible refine Later.alloc ?_ _) | (with_reducible refine Later.setCell ?_ (by simp; omega) _) | (with_reducible refine Later.setCell ?_ (by simp) _) | (with_reducible refine Later.drewN ?_ _) | (with_reducible refine Later.drew ?_) | (with_reducible refine Later.trans ?_ (Hid.out (by assumption))))))).mono ?_
        rw [hv]
        rintro e w1 ⟨rfl, hb⟩
        have H1 := Lib.hid hb
        have hc1 : w1.cell? ⟨w.heap.size, 0, none⟩ = some (.slice a n cap) := by rw [hb.cell (p := ⟨w.heap.size, 0, none⟩) (by simp)]; simp
        clear hb
        go_wp2_with fail
        go_ret2
        exact ⟨.slice none 0 0, by rw [E1.out]; rfl, by rw [E2.out]; exact ownS_none _ _, (by repeat (first | (with_reducible exact Later.refl _) | (with_reducible exact Hid.out (by assumption)) | (with_reducible refine Later.alloc ?_ _) | (with_reducible refine Later.setCell ?_ (by simp; omega) _) | (with_reducible refine Later.setCell ?_ (by simp) _) | (with_reducible refine Later.drewN ?_ _) | (with_reducible refine Later.drew ?_) | (with_reducible refine Later.trans ?_ (Hid.out (by assumption)))))⟩
end Go.Proofs.Ytnmlkigpiaekjaa
