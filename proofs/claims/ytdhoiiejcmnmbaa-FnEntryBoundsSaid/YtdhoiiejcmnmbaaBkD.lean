/- Contracts of chapter 4: the default blocks, of the program and of the model. -/
import Derived.Test.YtdhoiiejcmnmbaaBkM
import Derived.Test.YtdhoiiejcmnmbaaSgI
import Derived.Test.YtdhoiiejcmnmbaaSg1H
import Derived.Test.YtdhoiiejcmnmbaaBkS
import Derived.Test.YtdhoiiejcmnmbaaSgO
import Derived.WalkSmall
import Derived.Deep.DeepMust
namespace Go.Proofs.Ytdhoiiejcmnmbaa
open Go.RowKit
set_option maxHeartbeats 4000000
set_option linter.unusedVariables false
set_option linter.unusedSimpArgs false
theorem later_gB {w w' : World} (h : Later w w') (row : Option Nat) : w.grownBy w' row := ⟨h.os, h.tape, h.output, h.size, fun k hk _ => h.block k hk⟩
theorem Own.after {w w' : World} {base : Nat} {v : Value} {l : List Int} (h : Own w base v l) (k : Later w w') : Own w' base v l := h.kept (later_gB k none) (fun _ e => by cases e)
theorem own_one (w : World) (base : Nat) (y : Int) (h : base ≤ w.heap.size) (hy : InR y) : Own (w.alloc (.cells #[.int .i64 y] 2)) base (.slice (some ⟨w.heap.size, 0, none⟩) 1 1) [y] :=
  ⟨⟨by simp, .inr ⟨w.heap.size, 1, #[.int .i64 y], rfl, h, heap_alloc_new w _, by simp, by unfold maxLen; omega, by simp, by simp⟩⟩, fun x hx => by simp at hx; subst hx; exact hy⟩
/-- what hands back the default blocks leaves: a list of its own, and a code -/
def Dflt (w : World) (L : List Sg) (e : Ending) (w' : World) : Prop :=
  ∃ v, e = .returned (.tuple #[v, .int .i64 (dflE L)]) ∧ Own w' w.heap.size v (dflV L) ∧ Later w w'
theorem dfl_bad {L : List Sg} (hv : layB L = false) : dflE L = 1 ∧ dflV L = [] := by
  have : dflE L = 1 := by unfold dflE; rw [hv]; rfl
  exact ⟨this, by unfold dflV; rw [this]; rfl⟩
theorem dfl_all {L : List Sg} {n : Nat} (hv : layB L = true) (hl : L.length = n) : dflE L = (if (dfl L (n - 1)).length < 2 then 5 else if 8 < (dfl L (n - 1)).length then 3 else 0) ∧ dflV L = (if dflE L = 0 then dfl L (n - 1) else []) := by
  subst hl
  unfold dflV dflE
  rw [hv]
  exact ⟨rfl, rfl⟩
theorem dfl_in (L : List Sg) (k : Nat) (hk : k ≤ 1000) : ∀ x ∈ dfl L k, InR x := fun x hx => by have := dfl_mem L k x hx; exact ⟨by omega, by omega⟩
theorem dfl_yes {L : List Sg} {k : Nat} (h : hldB (sx L k) = true) : dfl L (k + 1) = dfl L k ++ [(k : Int) + 1] := by rw [dfl, if_pos h]
theorem dfl_not {L : List Sg} {k : Nat} (h : hldB (sx L k) = false) : dfl L (k + 1) = dfl L k := by rw [dfl, if_neg (by rw [h]; exact Bool.false_ne_true)]
set_option maxRecDepth 100000 in
theorem s_DefaultBlocks (a : Option Addr) (n cap : Nat) (L : List Sg) (w : World) (hs : Sgs w a n L) :
    Calls Try.prog 128 #[.agg #[.slice a n cap]] w (Dflt w L) := by
  have HS := Lib.hid hs
  have HL := Lib.hid hs.1
  have hn := hs.2.1
  clear hs
  cases hv : layB L
  · have HT := Lib.hid (dfl_bad hv)
    go_enter Try.func128, Try.ntmps128
    go_wp2_with (go_at_call 78; refine (s_IsLayout a n cap L _ (HS.out.later ((Later.refl _).alloc _))).mono ?_; rw [hv]; rintro e w1 ⟨rfl, hb⟩; obtain ⟨H, hcc, hff, hzz⟩ := later_facts hb; clear hb; (try simp at hzz))
    go_ret2
    exact ⟨.slice none 0 0, by rw [HT.out.1]; rfl, by rw [HT.out.2]; exact own_none _ _, (by repeat (first | (with_reducible exact Later.refl _) | (with_reducible exact Hid.out (by assumption)) | (with_reducible refine Later.alloc ?_ _) | (with_reducible refine Later.setCell ?_ (by simp; omega) _) | (with_reducible refine Later.setCell ?_ (by simp) _) | (with_reducible refine Later.drewN ?_ _) | (with_reducible refine Later.drew ?_) | (with_reducible refine Later.trans ?_ (Hid.out (by assumption)))))⟩
  · have HT := Lib.hid (dfl_all hv HL.out)
    have HV := Lib.hid hv
    have h24 := ((layB_iff L).1 hv).2.1; have h3 := ((layB_iff L).1 hv).1
    rw [HL.out] at h24 h3
    go_enter Try.func128, Try.ntmps128
    go_wp2_with fail
    refine (s_IsLayout a n cap L _ (HS.out.later ((Later.refl _).alloc _))).mono ?_
    rw [hv]
    rintro e w1 ⟨rfl, hb⟩
    have H1 : Hid (Later w w1) := Lib.hid (((Later.refl _).alloc _).trans hb)
    have cb : w1.cell? ⟨w.heap.size, 0, none⟩ = some (.slice a n cap) := by rw [hb.cell (p := ⟨w.heap.size, 0, none⟩) (by simp)]; simp
    have hz : w.heap.size < w1.heap.size := by have := hb.size; simp at this; omega
    clear hb hv
    go_wp2_with fail
    go_loopw [4, 5] (fun v i wr => ∃ k : Nat, k ≤ n - 1 ∧ i = .int .i64 k ∧ Own wr (w.heap.size + 1) v (dfl L k) ∧ wr.cell? ⟨w.heap.size, 0, none⟩ = some (.slice a n cap) ∧ w.heap.size < wr.heap.size ∧ Later w wr) (fun _ i _ => n - 1 - (intOf i).toNat)
    case atStart => exact ⟨0, by omega, rfl, own_one w1 _ 0 (by omega) ⟨by omega, by omega⟩, by rw [World.cell?_alloc_lt _ _ ⟨w.heap.size, 0, none⟩ hz]; exact cb, by rw [World.size_alloc]; omega, (by repeat (first | (with_reducible exact Later.refl _) | (with_reducible exact Hid.out (by assumption)) | (with_reducible refine Later.alloc ?_ _) | (with_reducible refine Later.setCell ?_ (by simp; omega) _) | (with_reducible refine Later.setCell ?_ (by simp) _) | (with_reducible refine Later.drewN ?_ _) | (with_reducible refine Later.drew ?_) | (with_reducible refine Later.trans ?_ (Hid.out (by assumption)))))⟩
    case round =>
      clear cb
      obtain ⟨k, hk, rfl, ho, cb, hz1, hlw⟩ := hrel
      have HW := Lib.hid hlw; have O := Lib.hid ho
      have hz2 := hlw.size
      have hlen := dfl_len L k
      clear hlw ho
      by_cases hlt : k < n - 1
      · obtain ⟨b', off', rfl, hb', hc⟩ := (HS.out.later HW.out).at k (by omega)
        obtain ⟨c0, c1, c2, c3, c4, c5, c6⟩ := hc
        have hkn : (k : Int) + 1 < n := by omega
        cases hh : hldB (sx L k)
        · have HD := Lib.hid (dfl_not hh)
          go_wp2_with (go_at_call 134; refine (s_holds_at HV.out k (by rw [HL.out]; omega) _).mono ?_; rw [hh]; rintro e w2 ⟨rfl, hb⟩; obtain ⟨H2, hcc, hff, hzz⟩ := later_facts hb; clear hb)
          go_roundw
          case rel => exact ⟨k + 1, by omega, by go_num, by rw [HD.out]; exact O.out.after (by repeat (first | (with_reducible exact Later.refl _) | (with_reducible exact Hid.out (by assumption)) | (with_reducible refine Later.alloc ?_ _) | (with_reducible refine Later.setCell ?_ (by simp; omega) _) | (with_reducible refine Later.setCell ?_ (by simp) _) | (with_reducible refine Later.drewN ?_ _) | (with_reducible refine Later.drew ?_) | (with_reducible refine Later.trans ?_ (Hid.out (by assumption))))), by rw [hcc _ _ hz1]; exact cb, by omega, (by repeat (first | (with_reducible exact Later.refl _) | (with_reducible exact Hid.out (by assumption)) | (with_reducible refine Later.alloc ?_ _) | (with_reducible refine Later.setCell ?_ (by simp; omega) _) | (with_reducible refine Later.setCell ?_ (by simp) _) | (with_reducible refine Later.drewN ?_ _) | (with_reducible refine Later.drew ?_) | (with_reducible refine Later.trans ?_ (Hid.out (by assumption)))))⟩
          case measure => simp [intOf]; omega
        · have HD := Lib.hid (dfl_yes hh)
          go_wp2_with fail
          refine (s_holds_at HV.out k (by rw [HL.out]; omega) _).mono ?_
          rw [hh]
          rintro e w2 ⟨rfl, hb⟩
          have H2 : Hid (Later w w2) := Lib.hid (Later.trans (by repeat (first | (with_reducible exact Later.refl _) | (with_reducible exact Hid.out (by assumption)) | (with_reducible refine Later.alloc ?_ _) | (with_reducible refine Later.setCell ?_ (by simp; omega) _) | (with_reducible refine Later.setCell ?_ (by simp) _) | (with_reducible refine Later.drewN ?_ _) | (with_reducible refine Later.drew ?_) | (with_reducible refine Later.trans ?_ (Hid.out (by assumption))))) hb)
          have O2 := Lib.hid (O.out.after hb)
          have hz3 : w.heap.size + 1 ≤ w2.heap.size := by have := hb.size; omega
          have cb2 : w2.cell? ⟨w.heap.size, 0, none⟩ = some (.slice (some ⟨b', off', none⟩) n cap) := by rw [hb.cell (p := ⟨w.heap.size, 0, none⟩) hz1]; exact cb
          clear hb c0 c1 c2 c3 c4 c5 c6
          go_wp2_with (at_builtin; go_must (refine app1 rfl _ _ rfl (w.heap.size + 1) _ _ _ _ _ O2.out rfl rfl ⟨by omega, by omega⟩ (by omega) (by omega) ?_; intro v' w5 ho hg; obtain ⟨W5, k5, z5⟩ := later_grown H2.out O2.out hg; have cb5 := k5 0 _ cb2; have sz5 : w.heap.size < w5.heap.size := (by omega); have O5 := Lib.hid ho; clear ho hg k5))
          go_roundw
          case rel => exact ⟨k + 1, by omega, by go_num, by rw [HD.out]; exact O5.out, cb5, sz5, W5.out⟩
          case measure => simp [intOf]; omega
      · obtain rfl : k = n - 1 := by omega
        obtain ⟨av, cv, rfl, _, _⟩ := O.out.sl
        have hkn : ¬ (((n - 1 : Nat) : Int) + 1 < n) := by omega
        generalize hd : dfl L (n - 1) = d at *
        by_cases h1 : d.length < 2
        · have HE : Hid (dflE L = 5) := Lib.hid (by rw [HT.out.1, if_pos (by omega)])
          have HVV : Hid (dflV L = []) := Lib.hid (by rw [HT.out.2, HE.out]; rfl)
          have h1' : (d.length : Int) < 2 := by omega
          clear hlen
          go_wp2
          go_ret2
          exact ⟨.slice none 0 0, by rw [HE.out]; rfl, by rw [HVV.out]; exact own_none _ _, HW.out⟩
        · by_cases h8 : 8 < d.length
          · have HE : Hid (dflE L = 3) := Lib.hid (by rw [HT.out.1, if_neg (by omega), if_pos h8])
            have HVV : Hid (dflV L = []) := Lib.hid (by rw [HT.out.2, HE.out]; rfl)
            have h1' : ¬ ((d.length : Int) < 2) := by omega
            have h8' : (8 : Int) < (d.length : Int) := by omega
            clear hlen
            go_wp2
            go_ret2
            exact ⟨.slice none 0 0, by rw [HE.out]; rfl, by rw [HVV.out]; exact own_none _ _, HW.out⟩
          · have HE : Hid (dflE L = 0) := Lib.hid (by rw [HT.out.1, if_neg (by omega), if_neg h8])
            have HVV : Hid (dflV L = d) := Lib.hid (by rw [HT.out.2, HE.out]; rfl)
            have h1' : ¬ ((d.length : Int) < 2) := by omega
            have h8' : ¬ ((8 : Int) < (d.length : Int)) := by omega
            clear hlen
            go_wp2
            go_ret2
            exact ⟨_, by rw [HE.out]; rfl, by rw [HVV.out]; exact O.out.mono (by omega), HW.out⟩
end Go.Proofs.Ytdhoiiejcmnmbaa
