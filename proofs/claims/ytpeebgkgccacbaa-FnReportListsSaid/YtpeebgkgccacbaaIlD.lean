/- What a channel reports, of the model: some list. -/
import Derived.Test.YtpeebgkgccacbaaIlC
import Derived.Test.YtpeebgkgccacbaaTfE
import Derived.Test.YtpeebgkgccacbaaTfT
namespace Go.Proofs.Ytpeebgkgccacbaa
open Go.RowKit
set_option maxHeartbeats 4000000
set_option maxRecDepth 100000
set_option linter.unusedVariables false
set_option linter.unusedSimpArgs false
/-- hands back a list of the call's own -/
def LstO (w : World) (e : Ending) (w' : World) : Prop := ∃ v l, e = .returned v ∧ Own w' w.heap.size v l ∧ Later w w'
set_option maxRecDepth 100000 in
theorem s_l11Channel (B : Int) (a : Option Addr) (n cap : Nat) (l : List Int) (fa : Option Addr) (fn fc : Nat) (F : List Int) (c : Int) (w : World) (hs : Sl w a n l) (hf : Wd w fa fn 3 F) (hv : tfB B l = true) (hk : ikA B fn F = true) :
    Calls Try.prog 40 #[.agg #[.int .i64 B, .slice a n cap], .slice fa fn fc, .int .i64 c] w (LstO w) := by
  obtain ⟨b1, b2, n1, n2, _⟩ := (tfB_iff B l).1 hv
  obtain ⟨_, _, f8, fk⟩ := (ikA_iff _ _ _).1 hk
  obtain ⟨bn, rfl⟩ := Int.eq_ofNat_of_zero_le (show 0 ≤ B by omega)
  have hb2 : 2 ≤ bn := by omega
  have hb8 : bn ≤ 8 := by omega
  have HS := Lib.hid hs; have HF := Lib.hid hf; have HV := Lib.hid hv; have HK := Lib.hid fk; have HN2 := Lib.hid n2
  clear hs hf hv hk fk n1 n2 b1 b2
  go_enter Try.func40, Try.ntmps40
  go_wp2_with fail
  have K0 := Lib.hid ((ht_box2 (held_none w) (.int .i64 bn) (.slice a n cap) 32).alloc (.cells #[] 2))
  have O0 : Hid (Own ((w.alloc (.cells #[.int .i64 bn, .slice a n cap] 32)).alloc (.cells #[] 2)) (w.heap.size + 1) (.slice (some ⟨w.heap.size + 1, 0, none⟩) 0 0) []) := Lib.hid (by have := own_new (w.alloc (.cells #[.int .i64 bn, .slice a n cap] 32)) (w.heap.size + 1) (by simp); simpa using this)
  go_loopw [7, 8] (fun v i wr => ∃ (k : Nat) (L : List Int), k ≤ bn ∧ i = .int .i64 k ∧ L.length = k ∧ Held [(w.heap.size, 0, .int .i64 bn), (w.heap.size, 1, .slice a n cap)] w wr ∧ Own wr (w.heap.size + 1) v L) (fun _ i _ => bn - (intOf i).toNat)
  case atStart => exact ⟨0, [], by omega, rfl, rfl, K0.out, O0.out⟩
  case round =>
    clear K0 O0
    obtain ⟨k, L, hkb, rfl, hL, hh, ho⟩ := hrel
    have K1 := Lib.hid hh; have O1 := Lib.hid ho
    have hz1 : w.heap.size + 1 ≤ wr.heap.size := Held.lt K1.out w.heap.size 0 (.int .i64 bn) (by simp)
    clear hh ho
    obtain ⟨c0, c1, _⟩ := Held.s2 K1.out
    by_cases hlt : k < bn
    · go_wp2_with fail
      refine (s_l10Count (bn : Int) a n cap l k _ (sl_later HS.out K1.out.2) HV.out).mono ?_
      rintro e w3 ⟨rfl, hl⟩
      have K3 := Lib.hid (K1.out.later hl)
      have O3 := Lib.hid (tf_lat O1.out hl)
      have hz3 := Nat.le_trans hz1 (Later.size (show Later wr w3 from hl))
      have hq : cn (bn : Int) l k ≤ 8 := Nat.le_trans (cn_le _ _ _) (by have := HN2.out; omega)
      generalize cn (bn : Int) l k = q at hq ⊢
      clear hl K1 O1 c0 c1
      go_wp2_with (at_builtin; go_must (refine app1At rfl _ _ rfl (w.heap.size + 1) _ _ _ _ _ O3.out rfl _ rfl (by first | rfl | simp) ⟨by omega, by omega⟩ (by omega) (by omega) ?_; intro v4 w4 ho hg hat; have O4 := Lib.hid ho; have K4 := Lib.hid (ht_grown K3.out hg (by intro x hx e; have h4 := (O3.out.lt _ e).1; simp only [List.mem_cons, List.not_mem_nil, or_false] at hx; rcases hx with rfl | rfl <;> (simp only [] at h4; omega)) (by intro q e; have := (O3.out.lt q e).1; omega)); clear ho hg hat))
      all_goals
        go_roundw
        case rel => exact ⟨k + 1, _, by omega, by go_num, by simp; omega, K4.out, O4.out⟩
        case measure => simp [intOf]; omega
    · obtain rfl : k = bn := by omega
      obtain ⟨g, cg, eg⟩ := own_some O1.out hL (by omega)
      subst eg
      have hg1 := (O1.out.lt g rfl).1
      go_wp2_with fail
      go_loopw [9] (fun i wr => ∃ (j : Nat) (L : List Int), j ≤ fn ∧ i = .int .i64 j ∧ L.length = k ∧ Held [(w.heap.size, 0, .int .i64 k), (w.heap.size, 1, .slice a n cap)] w wr ∧ Own wr (w.heap.size + 1) (.slice (some ⟨g, 0, none⟩) k cg) L) (fun i _ => fn - (intOf i).toNat)
      case atStart => exact ⟨0, L, by omega, rfl, hL, K1.out, O1.out⟩
      case round =>
        clear K1 O1 c0 c1 hz1 hL
        obtain ⟨j, M, hj, rfl, hM, hh, ho⟩ := hrel
        have K1 := Lib.hid hh; have O1 := Lib.hid ho; have HM := Lib.hid hM
        clear hh ho hM
        by_cases hlt : j < fn
        · obtain ⟨b', off, rfl, r0, r1, r2⟩ := (HF.out.later K1.out.2).three j hlt
          have fF := (ikF_iff _ _ _ _).1 ((ikK_iff _ _ _).1 HK.out j hlt).1
          obtain ⟨x, hx⟩ : ∃ x, x = ikb F j := ⟨_, rfl⟩
          obtain ⟨y, hy⟩ : ∃ x, x = ikc F j := ⟨_, rfl⟩
          obtain ⟨z, hz⟩ : ∃ x, x = ikv F j := ⟨_, rfl⟩
          rw [← hx, ← hy, ← hz] at fF
          rw [← hx] at r0
          rw [← hy] at r1
          rw [← hz] at r2
          clear hx hy hz
          obtain ⟨x0, x1, _, _, z01⟩ := fF
          obtain ⟨xn, rfl⟩ := Int.eq_ofNat_of_zero_le x0
          have hxk : xn < k := by omega
          have IZ : Hid (InR z) := Lib.hid (by unfold InR; omega)
          obtain ⟨y1, y2⟩ := own_at O1.out HM.out xn hxk
          have PUT : Hid (∀ W, Later wr W → Own (W.setCell ⟨g, xn, none⟩ (.int .i64 z)) (w.heap.size + 1) (.slice (some ⟨g, 0, none⟩) k cg) (M.set xn z) ∧ Held [(w.heap.size, 0, .int .i64 k), (w.heap.size, 1, .slice a n cap)] w (W.setCell ⟨g, xn, none⟩ (.int .i64 z))) := Lib.hid (fun W h => by
            obtain ⟨o1, o2⟩ := own_put (tf_lat O1.out h) HM.out xn z IZ.out
            refine ⟨o1, ht_grown (K1.out.later h) o2 (by intro x hx e; have e := Option.some.inj e; simp only [List.mem_cons, List.not_mem_nil, or_false] at hx; rcases hx with rfl | rfl <;> (simp only [] at e; omega)) (by intro q e; have e := Option.some.inj e; omega)⟩)
          clear z01 x0 x1
          cases hyc : (y == c)
          · go_wp2_with fail
            go_roundw
            case rel => exact ⟨j + 1, M, by omega, by go_num, HM.out, K1.out, O1.out⟩
            case measure => simp [intOf]; omega
          · go_wp2_with fail
            go_region
            all_goals
              go_wp2_with fail
              go_roundw
              case rel => exact ⟨j + 1, M.set xn z, by omega, by go_num, by simpa using HM.out, Held.later (PUT.out wr (Later.refl _)).2 (by repeat (first | (with_reducible exact Later.refl _) | (with_reducible exact Hid.out (by assumption)) | (with_reducible refine Later.alloc ?_ _) | (with_reducible refine Later.setCell ?_ (by simp; omega) _) | (with_reducible refine Later.setCell ?_ (by simp) _) | (with_reducible refine Later.drewN ?_ _) | (with_reducible refine Later.drew ?_) | (with_reducible refine Later.trans ?_ (Hid.out (by assumption))))), tf_lat (PUT.out wr (Later.refl _)).1 (by repeat (first | (with_reducible exact Later.refl _) | (with_reducible exact Hid.out (by assumption)) | (with_reducible refine Later.alloc ?_ _) | (with_reducible refine Later.setCell ?_ (by simp; omega) _) | (with_reducible refine Later.setCell ?_ (by simp) _) | (with_reducible refine Later.drewN ?_ _) | (with_reducible refine Later.drew ?_) | (with_reducible refine Later.trans ?_ (Hid.out (by assumption)))))⟩
              case measure => simp [intOf]; omega
        · obtain rfl : j = fn := by omega
          go_wp2_with fail
          go_ret
          exact ⟨_, M, rfl, tf_mono O1.out (by omega), K1.out.2⟩
end Go.Proofs.Ytpeebgkgccacbaa
