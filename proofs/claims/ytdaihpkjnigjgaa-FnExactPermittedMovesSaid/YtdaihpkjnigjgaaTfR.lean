/- Contracts of chapter 10: the model's runs of moves. -/
import Derived.Test.YtdaihpkjnigjgaaTfV
namespace Go.Proofs.Ytdaihpkjnigjgaa
open Go.RowKit
set_option maxHeartbeats 4000000
set_option maxRecDepth 100000
set_option linter.unusedVariables false
set_option linter.unusedSimpArgs false
theorem rnE_1 {B : Int} {l ts : List Int} (h : tfB B l = false) : rnE B l ts = 1 := by unfold rnE; rw [h]; rfl
theorem rnE_3 {B : Int} {l ts : List Int} (h : tfB B l = true) (k : ¬ ts.length ≤ 200) : rnE B l ts = 3 := by unfold rnE; rw [h, if_pos rfl, if_neg k]
theorem rnE_2 {B : Int} {l ts : List Int} (h : tfB B l = true) (k : ts.length ≤ 200) (q : ts.all (hasT l) = false) : rnE B l ts = 2 := by unfold rnE; rw [h, if_pos rfl, if_pos k, q]; rfl
theorem mwE_0 {B : Int} {l ts : List Int} (h : tfB B l = true) (k : ts.length ≤ 200) (q : ts.all (hasT l) = true) : mwE B l ts = 0 := by unfold mwE; rw [h, if_pos rfl, if_pos k, q]; rfl
/-- a traffic in a box of the call's own that is written again and again -/
def OBox (W : World) (base o g n c : Nat) (B : Int) (l : List Int) : Prop :=
  base ≤ o ∧ o < W.heap.size ∧ o ≠ g ∧ W.cell? ⟨o, 0, none⟩ = some (.int .i64 B) ∧ W.cell? ⟨o, 1, none⟩ = some (.slice (some ⟨g, 0, none⟩) n c) ∧ W.frozen? ⟨o, 0, none⟩ = false ∧ W.frozen? ⟨o, 1, none⟩ = false ∧ Own W base (.slice (some ⟨g, 0, none⟩) n c) l ∧ l.length = n
def RSt (w W : World) (R o g n c : Nat) (B : Int) (l : List Int) : Prop :=
  OBox W (R + 1) o g n c B l ∧ W.cell? ⟨R, 0, none⟩ = some (.int .i64 0) ∧ W.cell? ⟨R, 1, none⟩ = some (.slice none 0 0) ∧ W.frozen? ⟨R, 0, none⟩ = false ∧ W.frozen? ⟨R, 1, none⟩ = false ∧ Later w W ∧ w.heap.size ≤ R
theorem RSt.later {w W W1 : World} {R o g n c : Nat} {B : Int} {l : List Int} (h : RSt w W R o g n c B l) (k : Later W W1) : RSt w W1 R o g n c B l := by
  obtain ⟨⟨h1, h2, h3, h4, h5, h6, h7, h8, h9⟩, k1, k2, k3, k4, k5, k6⟩ := h
  have hR := cell_lt k1
  exact ⟨⟨h1, Nat.lt_of_lt_of_le h2 k.size, h3, by rw [k.cell (p := ⟨o, 0, none⟩) h2]; exact h4, by rw [k.cell (p := ⟨o, 1, none⟩) h2]; exact h5, by rw [Below.frozen (p := ⟨o, 0, none⟩) k h2]; exact h6, by rw [Below.frozen (p := ⟨o, 1, none⟩) k h2]; exact h7, tf_lat h8 k, h9⟩,
    by rw [k.cell (p := ⟨R, 0, none⟩) hR]; exact k1, by rw [k.cell (p := ⟨R, 1, none⟩) hR]; exact k2, by rw [Below.frozen (p := ⟨R, 0, none⟩) k hR]; exact k3, by rw [Below.frozen (p := ⟨R, 1, none⟩) k hR]; exact k4, k5.trans k, k6⟩
/-- the box is written -/
theorem RSt.put {w W W1 : World} {R o g n c g2 c2 : Nat} {B : Int} {l l2 : List Int} (h : RSt w W R o g n c B l) (k : Later W W1) (ho : Own W1 W.heap.size (.slice (some ⟨g2, 0, none⟩) n c2) l2) (hl : l2.length = n) :
    RSt w ((W1.setCell ⟨o, 0, none⟩ (.int .i64 B)).setCell ⟨o, 1, none⟩ (.slice (some ⟨g2, 0, none⟩) n c2)) R o g2 n c2 B l2 := by
  have ho2 := h.1.2.1
  obtain ⟨⟨h1, h2, h3, h4, h5, h6, h7, h8, h9⟩, k1, k2, k3, k4, k5, k6⟩ := h.later k
  have hg := (ho.lt g2 rfl).1
  have e1 : (W1.setCell ⟨o, 0, none⟩ (.int .i64 B)).cell? ⟨o, 0, none⟩ = some (.int .i64 B) := World.cell?_setCell_same _ _ _ h4
  have e2 : (W1.setCell ⟨o, 0, none⟩ (.int .i64 B)).cell? ⟨o, 1, none⟩ = some (.slice (some ⟨g, 0, none⟩) n c) := by rw [World.cell?_setCell_other _ _ _ _ (by simp)]; exact h5
  have f1 : ((W1.setCell ⟨o, 0, none⟩ (.int .i64 B)).setCell ⟨o, 1, none⟩ (.slice (some ⟨g2, 0, none⟩) n c2)).cell? ⟨o, 0, none⟩ = some (.int .i64 B) := by rw [World.cell?_setCell_other _ _ _ _ (by simp)]; exact e1
  have f2 := World.cell?_setCell_same (W1.setCell ⟨o, 0, none⟩ (.int .i64 B)) ⟨o, 1, none⟩ (.slice (some ⟨g2, 0, none⟩) n c2) e2
  refine ⟨⟨h1, by simpa using h2, by omega, f1, f2, by simpa using h6, by simpa using h7, tf_mono (own_res ho ho2) (by omega), hl⟩, ?_, ?_, by simpa using k3, by simpa using k4, put_res (by omega) k5, k6⟩
  · rw [World.cell?_setCell_far _ _ _ _ (by show o ≠ R; omega), World.cell?_setCell_far _ _ _ _ (by show o ≠ R; omega)]; exact k1
  · rw [World.cell?_setCell_far _ _ _ _ (by show o ≠ R; omega), World.cell?_setCell_far _ _ _ _ (by show o ≠ R; omega)]; exact k2
/-- the two ways in which the box may be made -/
theorem rst_A {w wr w3 : World} {R g n c : Nat} {B : Int} {l : List Int} {T : TypeId} (hw : Later w wr) (hR : w.heap.size ≤ R) (r0 : wr.cell? ⟨R, 0, none⟩ = some (.int .i64 0)) (r1 : wr.cell? ⟨R, 1, none⟩ = some (.slice none 0 0)) (r2 : wr.frozen? ⟨R, 0, none⟩ = false) (r3 : wr.frozen? ⟨R, 1, none⟩ = false)
    (h : Later wr.drew w3) (ho : Own w3 wr.drew.heap.size (.slice (some ⟨g, 0, none⟩) n c) l) (hl : l.length = n) : RSt w (w3.alloc (.cells #[.int .i64 B, .slice (some ⟨g, 0, none⟩) n c] T)) R w3.heap.size g n c B l := by
  have h := later_undrew h
  have ho : Own w3 wr.heap.size (.slice (some ⟨g, 0, none⟩) n c) l := ho
  have hA : Later wr (w3.alloc (.cells #[.int .i64 B, .slice (some ⟨g, 0, none⟩) n c] T)) := h.alloc _
  have hb := cell_lt r0
  have hg := (ho.lt g rfl)
  have hg2 : g < w3.heap.size := hg.2
  have hs := h.size
  refine ⟨⟨by omega, by simp, by omega, by simp, by simp, by simp, by simp, tf_mono (ho.alloc _) (by omega), hl⟩, ?_, ?_, ?_, ?_, hw.trans hA, hR⟩
  · rw [hA.cell (p := ⟨R, 0, none⟩) hb]; exact r0
  · rw [hA.cell (p := ⟨R, 1, none⟩) hb]; exact r1
  · rw [Below.frozen (p := ⟨R, 0, none⟩) hA hb]; exact r2
  · rw [Below.frozen (p := ⟨R, 1, none⟩) hA hb]; exact r3
theorem rst_B {w wr w3 : World} {R g n c : Nat} {B : Int} {l : List Int} {T : TypeId} (hw : Later w wr) (hR : w.heap.size ≤ R) (r0 : wr.cell? ⟨R, 0, none⟩ = some (.int .i64 0)) (r1 : wr.cell? ⟨R, 1, none⟩ = some (.slice none 0 0)) (r2 : wr.frozen? ⟨R, 0, none⟩ = false) (r3 : wr.frozen? ⟨R, 1, none⟩ = false)
    (h : Later (wr.alloc (.cells #[.int .i64 0, .slice none 0 0] T)).drew w3) (ho : Own w3 (wr.alloc (.cells #[.int .i64 0, .slice none 0 0] T)).drew.heap.size (.slice (some ⟨g, 0, none⟩) n c) l) (hl : l.length = n) :
    RSt w ((w3.setCell ⟨wr.heap.size, 0, none⟩ (.int .i64 B)).setCell ⟨wr.heap.size, 1, none⟩ (.slice (some ⟨g, 0, none⟩) n c)) R wr.heap.size g n c B l := by
  have h := later_undrew h
  have ho : Own w3 (wr.alloc (.cells #[.int .i64 0, .slice none 0 0] T)).heap.size (.slice (some ⟨g, 0, none⟩) n c) l := ho
  rw [World.size_alloc] at ho
  have hA : Later wr w3 := ((Later.refl wr).alloc _).trans h
  have hb := cell_lt r0
  have hg : wr.heap.size + 1 ≤ g := (ho.lt g rfl).1
  have hs := h.size
  rw [World.size_alloc] at hs
  have n0 : w3.cell? ⟨wr.heap.size, 0, none⟩ = some (.int .i64 0) := by rw [h.cell (p := ⟨wr.heap.size, 0, none⟩) (by simp)]; simp
  have n1 : w3.cell? ⟨wr.heap.size, 1, none⟩ = some (.slice none 0 0) := by rw [h.cell (p := ⟨wr.heap.size, 1, none⟩) (by simp)]; simp
  have n2 : w3.frozen? ⟨wr.heap.size, 0, none⟩ = false := by rw [Below.frozen (p := ⟨wr.heap.size, 0, none⟩) h (by simp)]; simp
  have n3 : w3.frozen? ⟨wr.heap.size, 1, none⟩ = false := by rw [Below.frozen (p := ⟨wr.heap.size, 1, none⟩) h (by simp)]; simp
  have e1 : (w3.setCell ⟨wr.heap.size, 0, none⟩ (.int .i64 B)).cell? ⟨wr.heap.size, 0, none⟩ = some (.int .i64 B) := World.cell?_setCell_same _ _ _ n0
  have e2 : (w3.setCell ⟨wr.heap.size, 0, none⟩ (.int .i64 B)).cell? ⟨wr.heap.size, 1, none⟩ = some (.slice none 0 0) := by rw [World.cell?_setCell_other _ _ _ _ (by simp)]; exact n1
  have f1 : ((w3.setCell ⟨wr.heap.size, 0, none⟩ (.int .i64 B)).setCell ⟨wr.heap.size, 1, none⟩ (.slice (some ⟨g, 0, none⟩) n c)).cell? ⟨wr.heap.size, 0, none⟩ = some (.int .i64 B) := by rw [World.cell?_setCell_other _ _ _ _ (by simp)]; exact e1
  have f2 := World.cell?_setCell_same (w3.setCell ⟨wr.heap.size, 0, none⟩ (.int .i64 B)) ⟨wr.heap.size, 1, none⟩ (.slice (some ⟨g, 0, none⟩) n c) e2
  refine ⟨⟨by omega, by simp; omega, by omega, f1, f2, by simpa using n2, by simpa using n3, tf_mono (own_res ho (by omega)) (by omega), hl⟩, ?_, ?_, ?_, ?_, put_res (Nat.le_trans hR (Nat.le_of_lt hb)) (hw.trans hA), hR⟩
  · rw [World.cell?_setCell_far _ _ _ _ (by show wr.heap.size ≠ R; omega), World.cell?_setCell_far _ _ _ _ (by show wr.heap.size ≠ R; omega), hA.cell (p := ⟨R, 0, none⟩) hb]; exact r0
  · rw [World.cell?_setCell_far _ _ _ _ (by show wr.heap.size ≠ R; omega), World.cell?_setCell_far _ _ _ _ (by show wr.heap.size ≠ R; omega), hA.cell (p := ⟨R, 1, none⟩) hb]; exact r1
  · have := Below.frozen (p := ⟨R, 0, none⟩) hA hb; simp; rw [this]; exact r2
  · have := Below.frozen (p := ⟨R, 1, none⟩) hA hb; simp; rw [this]; exact r3
theorem own_some {w : World} {base n : Nat} {v : Value} {l : List Int} (h : Own w base v l) (hl : l.length = n) (h1 : 1 ≤ n) : ∃ g c, v = .slice (some ⟨g, 0, none⟩) n c := by
  rcases h.1.2 with ⟨e, h0⟩ | ⟨g, c, _, e, _⟩
  · omega
  · exact ⟨g, c, by rw [e, hl]⟩
theorem s_RunMoves (B : Int) (a : Option Addr) (n cap : Nat) (l : List Int) (ta : Option Addr) (tn tc : Nat) (ts : List Int) (w : World) (hs : Sl w a n l) (ht : Sl w ta tn ts) :
    Calls Try.prog 44 #[.agg #[.int .i64 B, .slice a n cap], .slice ta tn tc] w (NewTC w (rvB B l ts) (rvV B l ts) (rnE B l ts)) := by
  have HS := Lib.hid hs
  have HT := Lib.hid ht
  have HL := Lib.hid hs.1
  have HTL := Lib.hid ht.1
  have htn := ht.2.1
  clear hs ht
  cases hv : tfB B l
  · have E1 : Hid (rnE B l ts = 1) := Lib.hid (rnE_1 hv)
    obtain ⟨e2, e3⟩ := rv_bad (show rnE B l ts ≠ 0 by rw [E1.out]; decide)
    have E2 := Lib.hid e2; have E3 := Lib.hid e3
    clear e2 e3
    go_enter Try.func44, Try.ntmps44
    go_wp2_with fail
    refine (s_IsTraffic _ _ _ _ _ _ (sl_later HS.out (show Later w _ from (by repeat (first | (with_reducible exact Later.refl _) | (with_reducible exact Hid.out (by assumption)) | (with_reducible refine Later.alloc ?_ _) | (with_reducible refine Later.setCell ?_ (by simp; omega) _) | (with_reducible refine Later.setCell ?_ (by simp) _) | (with_reducible refine Later.drewN ?_ _) | (with_reducible refine Later.drew ?_) | (with_reducible refine Later.trans ?_ (Hid.out (by assumption)))))))).mono ?_
    rintro e w1 ⟨rfl, hl⟩
    rw [hv]
    obtain ⟨H1, hcc, hff, hzz⟩ := later_facts hl; clear hl
    simp only [World.size_alloc] at hzz hcc hff
    have r0 : w1.cell? ⟨w.heap.size + 1, 0, none⟩ = some (.int .i64 0) := by rw [hcc _ _ (by omega)]; simp
    have r1 : w1.cell? ⟨w.heap.size + 1, 1, none⟩ = some (.slice none 0 0) := by rw [hcc _ _ (by omega)]; simp
    have r2 : w1.frozen? ⟨w.heap.size + 1, 0, none⟩ = false := by rw [hff _ _ (by omega)]; simp
    have r3 : w1.frozen? ⟨w.heap.size + 1, 1, none⟩ = false := by rw [hff _ _ (by omega)]; simp
    have H2 : Hid (Later w w1) := Lib.hid (by repeat (first | (with_reducible exact Later.refl _) | (with_reducible exact Hid.out (by assumption)) | (with_reducible refine Later.alloc ?_ _) | (with_reducible refine Later.setCell ?_ (by simp; omega) _) | (with_reducible refine Later.setCell ?_ (by simp) _) | (with_reducible refine Later.drewN ?_ _) | (with_reducible refine Later.drew ?_) | (with_reducible refine Later.trans ?_ (Hid.out (by assumption)))))
    clear hcc hff
    go_wp2_with fail
    exact bodyPost_ret (v := .tuple #[.agg #[.int .i64 0, .slice none 0 0], .int .i64 1]) (by simp [results, Try.results44, go_sem, *]) rfl ⟨.slice none 0 0, by rw [E1.out, E2.out], by rw [E3.out]; exact tf_none _ _, put_res (by omega) H2.out⟩
  · obtain ⟨b1, b2, n1, n2, hp⟩ := (tfB_iff B l).1 hv
    rw [HL.out] at n1 n2
    clear hp
    obtain ⟨b, off, rfl, hc0⟩ := HS.out.at 0 (by omega)
    have hbw := cell_lt hc0
    clear hc0
    by_cases h2 : tn ≤ 200
    · go_enter Try.func44, Try.ntmps44
      go_wp2_with fail
      refine (s_IsTraffic _ _ _ _ _ _ (sl_later HS.out (show Later w _ from (by repeat (first | (with_reducible exact Later.refl _) | (with_reducible exact Hid.out (by assumption)) | (with_reducible refine Later.alloc ?_ _) | (with_reducible refine Later.setCell ?_ (by simp; omega) _) | (with_reducible refine Later.setCell ?_ (by simp) _) | (with_reducible refine Later.drewN ?_ _) | (with_reducible refine Later.drew ?_) | (with_reducible refine Later.trans ?_ (Hid.out (by assumption)))))))).mono ?_
      rintro e w1 ⟨rfl, hl⟩
      rw [hv]
      obtain ⟨H1, hcc, hff, hzz⟩ := later_facts hl; clear hl
      simp only [World.size_alloc] at hzz hcc hff
      have q0 : w1.cell? ⟨w.heap.size, 0, none⟩ = some (.int .i64 B) := by rw [hcc _ _ (by omega)]; simp
      have q1 : w1.cell? ⟨w.heap.size, 1, none⟩ = some (.slice (some ⟨b, off, none⟩) n cap) := by rw [hcc _ _ (by omega)]; simp
      have r0 : w1.cell? ⟨w.heap.size + 1, 0, none⟩ = some (.int .i64 0) := by rw [hcc _ _ (by omega)]; simp
      have r1 : w1.cell? ⟨w.heap.size + 1, 1, none⟩ = some (.slice none 0 0) := by rw [hcc _ _ (by omega)]; simp
      have r2 : w1.frozen? ⟨w.heap.size + 1, 0, none⟩ = false := by rw [hff _ _ (by omega)]; simp
      have r3 : w1.frozen? ⟨w.heap.size + 1, 1, none⟩ = false := by rw [hff _ _ (by omega)]; simp
      have HG : Hid (Later w w1) := Lib.hid (by repeat (first | (with_reducible exact Later.refl _) | (with_reducible exact Hid.out (by assumption)) | (with_reducible refine Later.alloc ?_ _) | (with_reducible refine Later.setCell ?_ (by simp; omega) _) | (with_reducible refine Later.setCell ?_ (by simp) _) | (with_reducible refine Later.drewN ?_ _) | (with_reducible refine Later.drew ?_) | (with_reducible refine Later.trans ?_ (Hid.out (by assumption)))))
      clear hcc hff H1
      go_wp2_with fail
      go_loopw [6] (fun i wr => ∃ k : Nat, k ≤ tn ∧ i = .int .i64 k ∧ (ts.take k).all (hasT l) = true ∧ wr.cell? ⟨w.heap.size, 0, none⟩ = some (.int .i64 B) ∧ wr.cell? ⟨w.heap.size, 1, none⟩ = some (.slice (some ⟨b, off, none⟩) n cap) ∧ wr.cell? ⟨w.heap.size + 1, 0, none⟩ = some (.int .i64 0) ∧ wr.cell? ⟨w.heap.size + 1, 1, none⟩ = some (.slice none 0 0) ∧ wr.frozen? ⟨w.heap.size + 1, 0, none⟩ = false ∧ wr.frozen? ⟨w.heap.size + 1, 1, none⟩ = false ∧ Later w wr) (fun i _ => tn - (intOf i).toNat)
      case atStart => exact ⟨0, by omega, rfl, rfl, q0, q1, r0, r1, r2, r3, HG.out⟩
      case round =>
        clear q0 q1 r0 r1 r2 r3 HG
        obtain ⟨k, hk, rfl, hall, q0, q1, r0, r1, r2, r3, hg⟩ := hrel
        have HA := Lib.hid hall; have HG := Lib.hid hg
        clear hall hg
        by_cases hlt : k < tn
        · obtain ⟨bt, ot, rfl, hc⟩ := (sl_later HT.out HG.out).at k hlt
          have HK := Lib.hid (all_take (f := hasT l) k (by rw [HTL.out]; exact hlt))
          have hq : (decide (0 ≤ gx ts k) && decide (gx ts k ≤ (n : Int) - 1)) = hasT l (gx ts k) := by
            unfold hasT; rw [HL.out, Bool.eq_iff_iff]; simp; omega
          cases hh : hasT l (gx ts k)
          · rw [hh] at hq
            have E1 : Hid (rnE B l ts = 2) := Lib.hid (rnE_2 hv (by rw [HTL.out]; exact h2) (all_no k (by rw [HTL.out]; exact hlt) hh))
            obtain ⟨e2, e3⟩ := rv_bad (show rnE B l ts ≠ 0 by rw [E1.out]; decide)
            have E2 := Lib.hid e2; have E3 := Lib.hid e3
            clear e2 e3 hh
            go_wp2_with fail
            go_quiet ((go_at_call 92; exact Calls.quiet_of_same (s_InQ _ _ _ _ _ hq)))
            go_wp2_with fail
            exact bodyPost_ret (v := .tuple #[.agg #[.int .i64 0, .slice none 0 0], .int .i64 2]) (by simp [results, Try.results44, go_sem, *]) rfl ⟨.slice none 0 0, by rw [E1.out, E2.out], by rw [E3.out]; exact tf_none _ _, put_res (by omega) (HG.out.drewN _)⟩
          · rw [hh] at hq
            have HA2 : Hid ((ts.take (k + 1)).all (hasT l) = true) := Lib.hid (by rw [HK.out, HA.out, hh]; rfl)
            clear hh
            go_wp2_with fail
            go_quiet ((go_at_call 92; exact Calls.quiet_of_same (s_InQ _ _ _ _ _ hq)))
            go_wp2_with fail
            go_roundw
            case rel => exact ⟨k + 1, by omega, by go_num, HA2.out, by simpa using q0, by simpa using q1, by simpa using r0, by simpa using r1, by simpa using r2, by simpa using r3, (by repeat (first | (with_reducible exact Later.refl _) | (with_reducible exact Hid.out (by assumption)) | (with_reducible refine Later.alloc ?_ _) | (with_reducible refine Later.setCell ?_ (by simp; omega) _) | (with_reducible refine Later.setCell ?_ (by simp) _) | (with_reducible refine Later.drewN ?_ _) | (with_reducible refine Later.drew ?_) | (with_reducible refine Later.trans ?_ (Hid.out (by assumption)))))⟩
            case measure => simp [intOf]; omega
        · obtain rfl : k = tn := by omega
          have hall : ts.all (hasT l) = true := by
            have := HA.out
            rw [List.take_of_length_le (by rw [HTL.out]; exact Nat.le_refl _)] at this
            exact this
          have h0 : mwE B l ts = 0 := mwE_0 hv (by rw [HTL.out]; exact h2) hall
          have H5 : Hid (∀ j, j ≤ k → sfB B (rnL B l ts j) = false → rnE B l ts = 5 ∧ rvB B l ts = 0 ∧ rvV B l ts = []) := Lib.hid (fun j hj hf => by
            have e := rnE_5 h0 (rnS_no j (by rw [HTL.out]; exact hj) hf)
            exact ⟨e, rv_bad (by rw [e]; decide)⟩)
          have H0 : Hid (rnS B l ts k = true → rnE B l ts = 0 ∧ rvB B l ts = B ∧ rvV B l ts = rnL B l ts k) := Lib.hid (fun hs => by
            have e := rnE_0 h0 (by rw [HTL.out]; exact hs)
            exact ⟨e, by unfold rvB; rw [if_pos e], by unfold rvV; rw [if_pos e, HTL.out]⟩)
          have HH := Lib.hid hall
          clear h0 hall HA hlt
          go_wp2_with fail
          have KQ : Hid (∀ W', Later wr W' → W'.cell? ⟨w.heap.size, 0, none⟩ = some (.int .i64 B) ∧ W'.cell? ⟨w.heap.size, 1, none⟩ = some (.slice (some ⟨b, off, none⟩) n cap)) := Lib.hid (fun W' h => ⟨by rw [h.cell (p := ⟨w.heap.size, 0, none⟩) (cell_lt q0)]; exact q0, by rw [h.cell (p := ⟨w.heap.size, 1, none⟩) (cell_lt q1)]; exact q1⟩)
          have hzr := cell_lt r0
          go_region_held3 (fun w' => w'.cell? ⟨w.heap.size, 0, none⟩ = some (.int .i64 B) ∧ w'.cell? ⟨w.heap.size, 1, none⟩ = some (.slice (some ⟨b, off, none⟩) n cap)) (first | (refine KQ.out _ ?_; ((repeat (first | (with_reducible exact Later.refl _) | (with_reducible exact Hid.out (by assumption)) | (with_reducible refine Later.alloc ?_ _) | (with_reducible refine Later.setCell ?_ (by simp; omega) _) | (with_reducible refine Later.setCell ?_ (by simp) _) | (with_reducible refine Later.drewN ?_ _) | (with_reducible refine Later.drew ?_) | (with_reducible refine Later.trans ?_ (Hid.out (by assumption))))); done)))
            (first | (go_at_call 106; refine (s_Own _ _ _ _ _ (sl_later HS.out (show Later w _ from (by repeat (first | (with_reducible exact Later.refl _) | (with_reducible exact Hid.out (by assumption)) | (with_reducible refine Later.alloc ?_ _) | (with_reducible refine Later.setCell ?_ (by simp; omega) _) | (with_reducible refine Later.setCell ?_ (by simp) _) | (with_reducible refine Later.drewN ?_ _) | (with_reducible refine Later.drew ?_) | (with_reducible refine Later.trans ?_ (Hid.out (by assumption))))))) (by omega) (fun h => by cases h)).mono ?_; rintro e w3 ⟨v, rfl, ho, hb3⟩; obtain ⟨g3, c3, rfl⟩ := own_some ho HL.out n1; obtain ⟨H3, hcc, hff, hzz3⟩ := later_facts hb3; clear hb3; have HO3 := Lib.hid ho; clear ho))
          all_goals
            obtain ⟨o, ho, hst⟩ : ∃ o, (o = w3.heap.size ∨ o = wr.heap.size) ∧ True := ⟨w3.heap.size, .inl rfl, trivial⟩
            clear ho hst o
            first
            | (refine then_into (fun W => RSt w W (w.heap.size + 1) w3.heap.size g3 n c3 B l) (rst_A HG.out (Nat.le_succ _) r0 r1 r2 r3 H3.out HO3.out HL.out) ?_
               obtain ⟨o, ho⟩ : ∃ o, o = w3.heap.size := ⟨_, rfl⟩
               rw [← ho]
               clear ho)
            | (refine then_into (fun W => RSt w W (w.heap.size + 1) wr.heap.size g3 n c3 B l) (rst_B HG.out (Nat.le_succ _) r0 r1 r2 r3 H3.out HO3.out HL.out) ?_
               obtain ⟨o, ho⟩ : ∃ o, o = wr.heap.size := ⟨_, rfl⟩
               rw [← ho]
               clear ho)
            intro W hW
            have HW := Lib.hid hW
            clear hW hcc hff H3 HO3 q0 q1 r0 r1 r2 r3 hzz3 KQ HG hzr
            go_wp2_with fail
            go_loopw [8] (fun i wq => ∃ j : Nat, j ≤ k ∧ i = .int .i64 j ∧ (∀ m, m < j → sfB B (rnL B l ts m) = true) ∧ ∃ g c, RSt w wq (w.heap.size + 1) o g n c B (rnL B l ts j)) (fun i _ => k - (intOf i).toNat)
            case atStart => exact ⟨0, by omega, rfl, fun m hm => by omega, g3, c3, HW.out⟩
            case round =>
              clear HW
              obtain ⟨j, hj, rfl, hsf, g, c, hst⟩ := hrel
              have HST := Lib.hid hst
              have HSF := Lib.hid hsf
              have c0 := hst.1.2.2.2.1
              have c1 := hst.1.2.2.2.2.1
              obtain ⟨a5, c5, e5, hs5, _⟩ := hst.1.2.2.2.2.2.2.2.1.sl
              rw [hst.1.2.2.2.2.2.2.2.2] at hs5 e5
              cases e5
              have HS5 := Lib.hid hs5
              clear hst hsf hs5
              by_cases hjk : j < k
              · have hlt : (j : Int) < (k : Int) := by omega
                go_wp2_with fail
                refine (s_IsSafeTraffic _ _ _ _ _ _ HS5.out).mono ?_
                rintro e w4 ⟨rfl, hl⟩
                have hst := HST.out.later hl
                have HST4 := Lib.hid hst
                have HS4 := Lib.hid (sl_later HS5.out hl)
                clear c0 c1
                have c0 := hst.1.2.2.2.1
                have c1 := hst.1.2.2.2.2.1
                have r0 := hst.2.1
                have r1 := hst.2.2.1
                have r2 := hst.2.2.2.1
                have r3 := hst.2.2.2.2.1
                clear hst hl HST HS5
                cases hf : sfB B (rnL B l ts j)
                · obtain ⟨e1, e2, e3⟩ := H5.out j (by omega) hf
                  have E1 := Lib.hid e1; have E2 := Lib.hid e2; have E3 := Lib.hid e3
                  clear e1 e2 e3
                  go_wp2_with fail
                  refine (s_IsSafeTraffic _ _ _ _ _ _ HS4.out).mono ?_
                  rintro e w5 ⟨rfl, hl⟩
                  rw [hf]
                  have hst := HST4.out.later hl
                  clear c0 c1 r0 r1 r2 r3 hl
                  have r0 := hst.2.1
                  have r1 := hst.2.2.1
                  have r2 := hst.2.2.2.1
                  have r3 := hst.2.2.2.2.1
                  have HL5 := Lib.hid hst.2.2.2.2.2.1
                  clear hst
                  go_wp2_with fail
                  exact bodyPost_ret (v := .tuple #[.agg #[.int .i64 0, .slice none 0 0], .int .i64 5]) (by simp [results, Try.results44, go_sem, *]) rfl ⟨.slice none 0 0, by rw [E1.out, E2.out], by rw [E3.out]; exact tf_none _ _, put_res (Nat.le_succ _) HL5.out⟩
                · have hh : hasT l (gx ts j) = true := List.all_eq_true.1 HH.out _ (gx_mem ts j (by rw [HTL.out]; exact hjk))
                  obtain ⟨k1, k2⟩ := (hasT_iff l _).1 hh
                  rw [HL.out] at k2
                  obtain ⟨bt, ot, rfl, hc⟩ := (sl_later HT.out HST4.out.2.2.2.2.2.1).at j hjk
                  obtain ⟨m, hm⟩ := Int.eq_ofNat_of_zero_le k1
                  have hmn : m < n := by omega
                  have HR : Hid (rnL B l ts (j + 1) = mvL B (rnL B l ts j) m) := Lib.hid (by show mvL B _ (gx ts j).toNat = _; rw [hm]; rfl)
                  rw [hm] at hc
                  clear k1 k2 hh hm r0 r1 r2 r3
                  go_wp2_with fail
                  go_still_tail 5, (by kernel_rfl)
                  change wpList _ _ _ _ _ (World.drew _)
                  go_wp2_with fail
                  refine (s_l10Move _ _ _ _ _ _ _ (sl_later HS4.out ((Later.refl w4).drew)) hmn (rnL_tf ts hv j)).mono ?_
                  rintro e w6 ⟨v, rfl, ho, hl⟩
                  rw [← HR.out] at ho
                  obtain ⟨g6, c6, rfl⟩ := own_some ho (by rw [rnL_len]; exact HL.out) n1
                  have h5 := HST4.out.later ((Later.refl w4).drew)
                  have HP := Lib.hid (h5.put hl ho (by rw [rnL_len]; exact HL.out))
                  have h6 := h5.later hl
                  clear c0 c1 hc
                  have c0 := h6.1.2.2.2.1
                  have c1 := h6.1.2.2.2.2.1
                  have f0 := h6.1.2.2.2.2.2.1
                  have f1 := h6.1.2.2.2.2.2.2.1
                  clear h5 h6 ho hl HST4 HS4
                  go_wp2_with fail
                  go_roundw
                  case rel =>
                    refine ⟨j + 1, by omega, by go_num, fun m' hm' => ?_, g6, c6, HP.out⟩
                    by_cases e : m' = j
                    · rw [e]; exact hf
                    · exact HSF.out m' (by omega)
                  case measure => simp [intOf]; omega
              · obtain rfl : j = k := by omega
                have hlt : ¬ (j : Int) < (j : Int) := by omega
                go_wp2_with fail
                refine (s_IsSafeTraffic _ _ _ _ _ _ HS5.out).mono ?_
                rintro e w5 ⟨rfl, hl⟩
                have hst := HST.out.later hl
                clear c0 c1
                have c0 := hst.1.2.2.2.1
                have c1 := hst.1.2.2.2.2.1
                have r0 := hst.2.1
                have r1 := hst.2.2.1
                have r2 := hst.2.2.2.1
                have r3 := hst.2.2.2.2.1
                have HL5 := Lib.hid hst.2.2.2.2.2.1
                have HO5 := Lib.hid hst.1.2.2.2.2.2.2.2.1
                clear hst hl HST HS5
                cases hf : sfB B (rnL B l ts j)
                · obtain ⟨e1, e2, e3⟩ := H5.out j (by omega) hf
                  have E1 := Lib.hid e1; have E2 := Lib.hid e2; have E3 := Lib.hid e3
                  clear e1 e2 e3
                  go_wp2_with fail
                  exact bodyPost_ret (v := .tuple #[.agg #[.int .i64 0, .slice none 0 0], .int .i64 5]) (by simp [results, Try.results44, go_sem, *]) rfl ⟨.slice none 0 0, by rw [E1.out, E2.out], by rw [E3.out]; exact tf_none _ _, put_res (Nat.le_succ _) HL5.out⟩
                · obtain ⟨e1, e2, e3⟩ := H0.out ((rnS_iff B l ts j).2 (fun m hm => by
                    by_cases e : m = j
                    · rw [e]; exact hf
                    · exact HSF.out m (by omega)))
                  have E1 := Lib.hid e1; have E2 := Lib.hid e2; have E3 := Lib.hid e3
                  clear e1 e2 e3
                  go_wp2_with fail
                  exact bodyPost_ret (v := .tuple #[.agg #[.int .i64 B, .slice (some ⟨g, 0, none⟩) n c], .int .i64 0]) (by simp [results, Try.results44, go_sem, *]) rfl ⟨_, by rw [E1.out, E2.out], by rw [E3.out]; exact tf_mono (own_res HO5.out (Nat.lt_succ_self _)) (by omega), put_res (Nat.le_succ _) HL5.out⟩
    · have E1 : Hid (rnE B l ts = 3) := Lib.hid (rnE_3 hv (by rw [HTL.out]; exact h2))
      obtain ⟨e2, e3⟩ := rv_bad (show rnE B l ts ≠ 0 by rw [E1.out]; decide)
      have E2 := Lib.hid e2; have E3 := Lib.hid e3
      clear e2 e3
      go_enter Try.func44, Try.ntmps44
      go_wp2_with fail
      refine (s_IsTraffic _ _ _ _ _ _ (sl_later HS.out (show Later w _ from (by repeat (first | (with_reducible exact Later.refl _) | (with_reducible exact Hid.out (by assumption)) | (with_reducible refine Later.alloc ?_ _) | (with_reducible refine Later.setCell ?_ (by simp; omega) _) | (with_reducible refine Later.setCell ?_ (by simp) _) | (with_reducible refine Later.drewN ?_ _) | (with_reducible refine Later.drew ?_) | (with_reducible refine Later.trans ?_ (Hid.out (by assumption)))))))).mono ?_
      rintro e w1 ⟨rfl, hl⟩
      rw [hv]
      obtain ⟨H1, hcc, hff, hzz⟩ := later_facts hl; clear hl
      simp only [World.size_alloc] at hzz hcc hff
      have r0 : w1.cell? ⟨w.heap.size + 1, 0, none⟩ = some (.int .i64 0) := by rw [hcc _ _ (by omega)]; simp
      have r1 : w1.cell? ⟨w.heap.size + 1, 1, none⟩ = some (.slice none 0 0) := by rw [hcc _ _ (by omega)]; simp
      have r2 : w1.frozen? ⟨w.heap.size + 1, 0, none⟩ = false := by rw [hff _ _ (by omega)]; simp
      have r3 : w1.frozen? ⟨w.heap.size + 1, 1, none⟩ = false := by rw [hff _ _ (by omega)]; simp
      have H2 : Hid (Later w w1) := Lib.hid (by repeat (first | (with_reducible exact Later.refl _) | (with_reducible exact Hid.out (by assumption)) | (with_reducible refine Later.alloc ?_ _) | (with_reducible refine Later.setCell ?_ (by simp; omega) _) | (with_reducible refine Later.setCell ?_ (by simp) _) | (with_reducible refine Later.drewN ?_ _) | (with_reducible refine Later.drew ?_) | (with_reducible refine Later.trans ?_ (Hid.out (by assumption)))))
      clear hcc hff
      go_wp2_with fail
      exact bodyPost_ret (v := .tuple #[.agg #[.int .i64 0, .slice none 0 0], .int .i64 3]) (by simp [results, Try.results44, go_sem, *]) rfl ⟨.slice none 0 0, by rw [E1.out, E2.out], by rw [E3.out]; exact tf_none _ _, put_res (by omega) H2.out⟩
end Go.Proofs.Ytdaihpkjnigjgaa
