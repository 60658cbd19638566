/- Contracts of chapter 6: the energy that is needed, of the program. | Contracts of chapter 3: segments that are valid, segments that hold: the model's functions. | Contracts of chapter 1's divisions that later chapters use: rounded down. | Contracts of chapter 1's divisions, of the program and of the model. | Contracts of the roots. | Contracts of chapter 6: the model's functions on one segment. | Contracts of chapter 3: layouts: the model's functions. | Contracts of chapter 6: runs, and the energy that is needed: the model's functions. | Contracts of chapter 6: the energy that is needed: the model's functions. | The walk of the exact law of chapter 6 on the energy that is needed. -/
import Derived.Test.YtnmlkigpiaekjaaEnA
import Derived.Test.YtnmlkigpiaekjaaIvN
import Derived.Test.YtnmlkigpiaekjaaSgM
import Derived.RegionTactic
import Derived.ChangeAlike
import Derived.BigQuiet
import Derived.Deep.QuietTactic
import Derived.Test.YtnmlkigpiaekjaaNum0
import Derived.Outline
import Derived.WalkMore
import Derived.Test.YtnmlkigpiaekjaaEnK
import Derived.Test.YtnmlkigpiaekjaaSgs
import Derived.Test.YtnmlkigpiaekjaaOwn
import Derived.IntWalk
import Derived.Test.YtnmlkigpiaekjaaEnP
import Derived.Deep.RegionWith
import Derived.Test.YtnmlkigpiaekjaaExT
import Derived.Test.YtnmlkigpiaekjaaSgC
namespace Go.Proofs.Ytnmlkigpiaekjaa
open Go.RowKit
set_option maxHeartbeats 4000000
set_option linter.unusedVariables false
set_option linter.unusedSimpArgs false
/-- the greatest of m and the first k of a list -/
def mxK (m : Int) (l : List Int) : Nat → Int
  | 0 => m
  | k + 1 => max (mxK m l k) (gx l k)
theorem i_greatest (m : Int) (a : Option Addr) (n cap : Nat) (l : List Int) (w : World) (hs : Sl w a n l) :
    Calls Try.prog 49 #[.int .i64 m, .slice a n cap] w fun e w' => e = .returned (.int .i64 (mxK m l n)) ∧ Later w w' := by
  have HS := Lib.hid hs
  have hn := hs.2.1
  clear hs
  go_enter Try.func49, Try.ntmps49
  go_wp2_with fail
  go_loop [5, 11] (fun t i => ∃ k : Nat, k ≤ n ∧ i = .int .i64 k ∧ t = .int .i64 (mxK m l k)) (fun _ i => n - (intOf i).toNat)
  case atStart => exact ⟨0, by omega, rfl, rfl⟩
  case round =>
    obtain ⟨k, hk, rfl, rfl⟩ := hrel
    by_cases hlt : k < n
    · obtain ⟨b, off, rfl, hc⟩ := HS.out.at k hlt
      have HM : Hid (mxK m l (k + 1) = max (mxK m l k) (gx l k)) := Lib.hid rfl
      go_wp2_with fail
      go_round
      case rel =>
        refine ⟨k + 1, by omega, by go_num, ?_⟩
        rw [HM.out]
        congr 1
        split <;> omega
      case measure => simp [intOf]; omega
    · obtain rfl : k = n := by omega
      go_wp2_with fail
      go_ret
      exact ⟨rfl, Later.refl _⟩
/-- what is lacked behind each of the first k segments -/
def lackL (R : List Sg) (k : Nat) : List Int := (List.range k).map fun j => -clL R (j + 1)
theorem lackL_len (R : List Sg) (k : Nat) : (lackL R k).length = k := by simp [lackL]
theorem lackL_succ (R : List Sg) (k : Nat) : lackL R (k + 1) = lackL R k ++ [-clL R (k + 1)] := by
  unfold lackL; rw [List.range_succ, List.map_append]; rfl
theorem lackL_gx (R : List Sg) (n j : Nat) (h : j < n) : gx (lackL R n) j = -clL R (j + 1) := by
  rw [gx_of _ _ (by rw [lackL_len]; exact h)]; simp [lackL]
theorem mxK_lack (R : List Sg) (n k : Nat) (h : k ≤ n) : mxK 0 (lackL R n) k = ndN R k := by
  induction k with
  | zero => rfl
  | succ k ih => rw [ndN_succ, ← ih (by omega), ← lackL_gx R n k (by omega)]; rfl
theorem own_none0 (w : World) (base : Nat) : Own w base (.slice none 0 0) [] := ⟨⟨rfl, .inl ⟨rfl, rfl⟩⟩, fun x hx => by simp at hx⟩
theorem own_lat {w w' : World} {base : Nat} {v : Value} {l : List Int} (h : Own w base v l) (k : Later w w') : Own w' base v l :=
  h.kept (row := none) ⟨k.os, k.tape, k.output, k.size, fun i hi _ => k.block i hi⟩ (fun _ e => by cases e)
set_option maxRecDepth 100000 in
theorem i_EnergyNeeded (s : Option Addr) (n cap : Nat) (L : List Sg) (f c : Int) (w : World) (hs : Sgs w s n L) :
    Calls Try.prog 17 #[.agg #[.slice s n cap], .int .i64 f, .int .i64 c] w fun e w' => e = .returned (.tuple #[.int .i64 (enV L f c), .int .i64 (enE L f c)]) ∧ Later w w' := by
  have HS := Lib.hid hs
  have HL := Lib.hid hs.1
  clear hs
  by_cases hz : sgE L f c = 0
  · obtain ⟨hv, f', c', rfl, rfl, hf, hc⟩ := sgE_ok hz
    obtain ⟨R, hR⟩ : ∃ R, R = runS L f' c' := ⟨_, rfl⟩
    have hRl : R.length = c' := by rw [hR, runS_len]
    have hok : okB R R.length = true := by rw [hR]; exact runS_okB L f' c' ((layB_iff L).1 hv).2.2.1 (by omega)
    have HSV : Hid (sgV L (f' : Int) (c' : Int) = R) := Lib.hid (by unfold sgV; rw [if_pos hz, hR]; simp)
    have HE := Lib.hid hz
    have HFE : Hid (enE L (f' : Int) (c' : Int) = if ndN R c' ≤ 10000000000 then 0 else 3) := Lib.hid (by unfold enE; rw [if_pos hz, hR]; simp)
    have HFV : Hid (enV L (f' : Int) (c' : Int) = if ndN R c' ≤ 10000000000 then ndN R c' else 0) := Lib.hid (by unfold enV; rw [HFE.out, hR]; split <;> simp)
    have HND := Lib.hid (ndN_bd R hok c' (by omega))
    have HRL := Lib.hid hRl; have HOK := Lib.hid hok
    clear hR hz hok hRl hv hf
    go_enter Try.func17, Try.ntmps17
    go_wp2_with fail
    refine (i_segmentsAlong s n cap L f' c' _ (HS.out.later (by repeat (first | (with_reducible exact Later.refl _) | (with_reducible exact Hid.out (by assumption)) | (with_reducible refine Later.alloc ?_ _) | (with_reducible refine Later.setCell ?_ (by simp; omega) _) | (with_reducible refine Later.setCell ?_ (by simp) _) | (with_reducible refine Later.drewN ?_ _) | (with_reducible refine Later.drew ?_) | (with_reducible refine Later.trans ?_ (Hid.out (by assumption))))))).mono ?_
    rw [HE.out, HSV.out]
    rintro e w2 ⟨v, rfl, ho, hb⟩
    obtain ⟨ra, rc, rfl, hrc, hrs, hrb⟩ := ho.sgs
    have hrb2 : ∀ x, ra = some x → x.block < w2.heap.size := fun x e => by subst e; exact (ho.lt x.block rfl).2
    rw [HRL.out] at hrs
    generalize hq : R.length = q
    obtain rfl : q = c' := by rw [← hq]; exact HRL.out
    clear hq
    have RS2 := Lib.hid hrs; have RB := Lib.hid hrb2
    have H2 : Hid (Later w w2) := Lib.hid (Later.trans (by repeat (first | (with_reducible exact Later.refl _) | (with_reducible exact Hid.out (by assumption)) | (with_reducible refine Later.alloc ?_ _) | (with_reducible refine Later.setCell ?_ (by simp; omega) _) | (with_reducible refine Later.setCell ?_ (by simp) _) | (with_reducible refine Later.drewN ?_ _) | (with_reducible refine Later.drew ?_) | (with_reducible refine Later.trans ?_ (Hid.out (by assumption))))) hb)
    clear hb ho hrs hrb hrb2 hrc
    go_wp2_with fail
    refine (i_coasting 0 0 _).mono ?_
    rintro e w3 ⟨g, rfl, hg, hF, hb⟩
    have H3 : Hid (Later w w3) := Lib.hid (Later.trans (by repeat (first | (with_reducible exact Later.refl _) | (with_reducible exact Hid.out (by assumption)) | (with_reducible refine Later.alloc ?_ _) | (with_reducible refine Later.setCell ?_ (by simp; omega) _) | (with_reducible refine Later.setCell ?_ (by simp) _) | (with_reducible refine Later.drewN ?_ _) | (with_reducible refine Later.drew ?_) | (with_reducible refine Later.trans ?_ (Hid.out (by assumption))))) hb)
    have F3 := Lib.hid hF
    have RS3 := Lib.hid (RS2.out.later hb)
    have NG : Hid (∀ x, ra = some x → (some g : Option Nat) ≠ some x.block) := Lib.hid (fun x e h => by have := RB.out x e; have := Option.some.inj h; omega)
    have hgw : w.heap.size ≤ g := by have := H2.out.size; omega
    have HG2 := Lib.hid hg
    clear hb hF hg
    unfold sumF
    go_wp2_with fail
    go_loopw [11, 29] (fun v i wr => ∃ k : Nat, k ≤ q ∧ i = .int .i64 k ∧ Own wr (g + 1) v (lackL R k) ∧ Fr g [.int .i64 (clL R k), .int .i64 (clH R k)] wr ∧ Sgs wr ra q R ∧ Later w wr) (fun _ i _ => q - (intOf i).toNat)
    case atStart => exact ⟨0, by omega, rfl, own_none0 _ _, by rw [clL_0, clH_0]; exact F3.out, RS3.out, H3.out⟩
    case round =>
      clear RS2 RS3 F3 H3
      obtain ⟨k, hk, rfl, ho, hF, hrs, hlw⟩ := hrel
      have HO := Lib.hid ho; have HF := Lib.hid hF; have HRS := Lib.hid hrs; have HW2 := Lib.hid hlw
      have hlt0 := hF.lt
      clear ho hF hrs hlw
      by_cases hlt : k < q
      · have hseg : sgB (sx R k) = true := okB_at R R.length k (Nat.le_refl _) (by rw [HRL.out]; exact hlt) HOK.out
        obtain ⟨d1, d2, d3⟩ := cl_bd R HOK.out k (by rw [HRL.out]; exact hk)
        obtain ⟨d4, d5, d6⟩ := cl_bd R HOK.out (k + 1) (by rw [HRL.out]; exact hlt)
        obtain ⟨x, hx⟩ : ∃ x, x = clL R (k + 1) := ⟨_, rfl⟩
        obtain ⟨y, hy⟩ : ∃ y, y = clH R (k + 1) := ⟨_, rfl⟩
        have q1 : clL R k + chL (sx R k) = x := by rw [hx, clL_succ R k (by rw [HRL.out]; exact hlt)]
        have q2 : clH R k + chH (sx R k) = y := by rw [hy, clH_succ R k (by rw [HRL.out]; exact hlt)]
        have hx0 : -300000000000 ≤ x := by omega
        have hx2 : x ≤ 300000000000 := by omega
        have HX := Lib.hid hx; have HY := Lib.hid hy
        have b1 : -1000000000000 ≤ clL R k := by omega
        have b2 : clL R k ≤ 1000000000000 := by omega
        have b3 : -1000000000000 ≤ clH R k := by omega
        have b4 : clH R k ≤ 1000000000000 := by omega
        clear d1 d2 d3 d4 d5 d6 hx hy
        obtain ⟨bb, off, rfl, hb1, hc7⟩ := HRS.out.at k hlt
        obtain ⟨c0, c1, c2, c3, c4, c5, c6⟩ := hc7
        go_wp2_with fail
        refine (i_coasting1 (sx R k) g (clL R k) (clH R k) _ hseg (fr_later HF.out (by repeat (first | (with_reducible exact Later.refl _) | (with_reducible exact Hid.out (by assumption)) | (with_reducible refine Later.alloc ?_ _) | (with_reducible refine Later.setCell ?_ (by simp; omega) _) | (with_reducible refine Later.setCell ?_ (by simp) _) | (with_reducible refine Later.drewN ?_ _) | (with_reducible refine Later.drew ?_) | (with_reducible refine Later.trans ?_ (Hid.out (by assumption)))))) b1 b2 b3 b4).mono ?_
        rw [q1, q2]
        rintro e w5 ⟨rfl, hF5, hg5⟩
        have F5 := Lib.hid hF5
        have O5 := Lib.hid ((own_lat HO.out (show Later wr _ from (by repeat (first | (with_reducible exact Later.refl _) | (with_reducible exact Hid.out (by assumption)) | (with_reducible refine Later.alloc ?_ _) | (with_reducible refine Later.setCell ?_ (by simp; omega) _) | (with_reducible refine Later.setCell ?_ (by simp) _) | (with_reducible refine Later.drewN ?_ _) | (with_reducible refine Later.drew ?_) | (with_reducible refine Later.trans ?_ (Hid.out (by assumption))))))).kept hg5 (fun j e => by cases e; omega))
        have S5 := Lib.hid (sgs_kept (HRS.out.later (show Later wr _ from (by repeat (first | (with_reducible exact Later.refl _) | (with_reducible exact Hid.out (by assumption)) | (with_reducible refine Later.alloc ?_ _) | (with_reducible refine Later.setCell ?_ (by simp; omega) _) | (with_reducible refine Later.setCell ?_ (by simp) _) | (with_reducible refine Later.drewN ?_ _) | (with_reducible refine Later.drew ?_) | (with_reducible refine Later.trans ?_ (Hid.out (by assumption))))))) hg5 NG.out)
        have W5 : Hid (Later w w5) := Lib.hid (later_kept (show Later w _ from (by repeat (first | (with_reducible exact Later.refl _) | (with_reducible exact Hid.out (by assumption)) | (with_reducible refine Later.alloc ?_ _) | (with_reducible refine Later.setCell ?_ (by simp; omega) _) | (with_reducible refine Later.setCell ?_ (by simp) _) | (with_reducible refine Later.drewN ?_ _) | (with_reducible refine Later.drew ?_) | (with_reducible refine Later.trans ?_ (Hid.out (by assumption)))))) hg5 (fun j e => by cases e; exact hgw))
        have hg5s := hF5.lt
        clear hF5 hg5 c0 c1 c2 c3 c4 c5 c6 q1 q2 HO HF HRS
        have hfd : ∀ w : World, (Instr.field 28 (.agg #[.int .i64 x, .int .i64 y]) 0).run Try.prog w = .ok (.int .i64 x) w := fun _ => by kernel_rfl
        go_wp2_with (at_builtin; go_must (refine app1 rfl _ _ rfl (g + 1) _ _ _ (lackL R k) (-x) O5.out rfl rfl ⟨by omega, by omega⟩ (by rw [lackL_len]; omega) (by omega) ?_; intro v' w7 ho hg))
        have O7 := Lib.hid ho
        have F7 := Lib.hid (fr_kept F5.out hg (fun e => by have := (O5.out.lt g e).1; omega))
        have S7 := Lib.hid (sgs_kept S5.out hg (fun z e h => by have h1 := (O5.out.lt z.block h).1; have h2 := RB.out z e; have h3 := HG2.out; omega))
        have W7 : Hid (Later w w7) := Lib.hid (later_kept W5.out hg (fun j e => by have := (O5.out.lt j e).1; omega))
        clear ho hg
        go_roundw
        case rel => exact ⟨k + 1, by omega, by go_num, by rw [lackL_succ, ← HX.out]; exact O7.out, by rw [← HX.out, ← HY.out]; exact F7.out, S7.out, W7.out⟩
        case measure => simp [intOf]; omega
      · obtain rfl : k = q := by omega
        obtain ⟨sa, sc, hv, hsl, _⟩ := HO.out.sl
        rw [lackL_len] at hv hsl
        subst hv
        have HM : Hid (mxK 0 (lackL R k) k = ndN R k) := Lib.hid (mxK_lack R k k (Nat.le_refl _))
        go_wp2_with fail
        refine (i_greatest 0 sa k sc (lackL R k) _ hsl).mono ?_
        rw [HM.out]
        rintro e w6 ⟨rfl, hb6⟩
        have W6 : Hid (Later w w6) := Lib.hid (HW2.out.trans hb6)
        clear hb6
        by_cases hbig : ndN R k ≤ 10000000000
        · have E1 : Hid (enE L (f' : Int) (k : Int) = 0) := Lib.hid (by rw [HFE.out, if_pos hbig])
          have E2 : Hid (enV L (f' : Int) (k : Int) = ndN R k) := Lib.hid (by rw [HFV.out, if_pos hbig])
          go_wp2_with fail
          go_ret2
          exact ⟨ret_2i E2.out.symm E1.out.symm, W6.out⟩
        · have E1 : Hid (enE L (f' : Int) (k : Int) = 3) := Lib.hid (by rw [HFE.out, if_neg hbig])
          have E2 : Hid (enV L (f' : Int) (k : Int) = 0) := Lib.hid (by rw [HFV.out, if_neg hbig])
          go_wp2_with fail
          go_ret2
          exact ⟨ret_2i E2.out.symm E1.out.symm, W6.out⟩
  · have E1 : Hid (enE L f c = sgE L f c) := Lib.hid (by unfold enE; rw [if_neg hz])
    have E2 : Hid (enV L f c = 0) := Lib.hid (by unfold enV; rw [E1.out, if_neg hz])
    have HZ : (sgE L f c != 0) = true := by simpa using hz
    clear hz
    go_enter Try.func17, Try.ntmps17
    go_wp2_with fail
    refine (i_segmentsAlong s n cap L f c _ (HS.out.later (by repeat (first | (with_reducible exact Later.refl _) | (with_reducible exact Hid.out (by assumption)) | (with_reducible refine Later.alloc ?_ _) | (with_reducible refine Later.setCell ?_ (by simp; omega) _) | (with_reducible refine Later.setCell ?_ (by simp) _) | (with_reducible refine Later.drewN ?_ _) | (with_reducible refine Later.drew ?_) | (with_reducible refine Later.trans ?_ (Hid.out (by assumption))))))).mono ?_
    rintro e w2 ⟨v, rfl, ho, hb⟩
    have H2 : Hid (Later w w2) := Lib.hid (Later.trans (by repeat (first | (with_reducible exact Later.refl _) | (with_reducible exact Hid.out (by assumption)) | (with_reducible refine Later.alloc ?_ _) | (with_reducible refine Later.setCell ?_ (by simp; omega) _) | (with_reducible refine Later.setCell ?_ (by simp) _) | (with_reducible refine Later.drewN ?_ _) | (with_reducible refine Later.drew ?_) | (with_reducible refine Later.trans ?_ (Hid.out (by assumption))))) hb)
    clear hb ho
    go_wp2_with fail
    go_ret2
    exact ⟨ret_2i E2.out.symm E1.out.symm, H2.out⟩
end Go.Proofs.Ytnmlkigpiaekjaa
namespace Go.Proofs.Ytnmlkigpiaekjaa
open Go.RowKit
set_option maxHeartbeats 2000000
set_option linter.unusedVariables false
set_option linter.unusedSimpArgs false
theorem s_In' (n a b : Int) (w : World) : Calls Try.prog 73 #[.int .i64 n, .int .i64 a, .int .i64 b] w fun e w' => e = .returned (.bool (decide (a ≤ n) && decide (n ≤ b))) ∧ w' = w := (s_In n a b w).mono fun _ _ ⟨h, k⟩ => ⟨h, k.symm⟩
def absI (n : Int) : Int := if n < 0 then -n else n
theorem s_Abs' (n : Int) (w : World) (h0 : -1000000000000 ≤ n) (h1 : n ≤ 1000000000000) : Calls Try.prog 94 #[.int .i64 n] w fun e w' => e = .returned (.int .i64 (absI n)) ∧ w' = w := by
  go_enter Try.func94, Try.ntmps94
  go_wp2
  all_goals
    go_ret
    exact ⟨ret_i64 (by unfold absI; omega), rfl⟩
theorem win_eq (n a b : Int) (h0 : 0 ≤ n) (h1 : n ≤ 20000) : (ivB a b && decide (n ≤ a) && decide (b ≤ 20000)) = rngB n a b := by
  rw [Bool.eq_iff_iff]
  unfold rngB
  simp [ivB_iff]
  omega
theorem s_Within (n a b : Int) (h0 : 0 ≤ n) (h1 : n ≤ 20000) (w : World) :
    Calls Try.prog 79 #[.agg #[.int .i64 a, .int .i64 b], .int .i64 n, .int .i64 20000] w fun e w' => e = .returned (.bool (rngB n a b)) ∧ Later w w' := by
  have E := Lib.hid (win_eq n a b h0 h1)
  clear h0 h1
  cases h : ivB a b
  all_goals
    go_enter Try.func79, Try.ntmps79
    go_wp2_with (go_at_call 100; refine (s_IsInterval _ _ _).mono ?_; rintro e w1 ⟨rfl, hb⟩; obtain ⟨H, hcc, hff, hzz⟩ := later_facts hb; clear hb; (try simp at hzz); (try simp only [World.heap_drewN, World.cell?_drewN, World.frozen?_drewN] at hcc hff); have hz0 : w.heap.size < w1.heap.size := (by omega))
    all_goals
      go_ret
      exact ⟨ret_b (by rw [← E.out, h]; first | (simp_all; done) | (simp_all; omega)), (by repeat (first | exact Later.refl _ | refine Later.alloc ?_ _ | refine Later.drewN ?_ _ | refine Later.drew ?_ | refine Later.trans ?_ (Hid.out (by assumption))))⟩
theorem s_IsSegment (x : Sg) (w : World) : Calls Try.prog 72 #[.agg #[.int .i64 x.k, .int .i64 x.l, .int .i64 x.r, .int .i64 x.a, .int .i64 x.b, .int .i64 x.c, .int .i64 x.d]] w fun e w' => e = .returned (.bool (sgB x)) ∧ Later w w' := by
  by_cases hk : 0 ≤ x.k ∧ x.k ≤ 4
  · by_cases hl : 1 ≤ x.l ∧ x.l ≤ 200000
    · by_cases hr : -100000 ≤ x.r ∧ x.r ≤ 100000
      · by_cases ha : absI x.r ≤ x.l
        · have ha0 : ¬ (absI x.r > x.l) := by omega
          have S0 : Hid (sgB x = (rngB 0 x.a x.b && frcB x.k x.c x.d)) := Lib.hid (by
            have q1 : kndB x.k = true := by unfold kndB; simp [hk]
            have q2 : lenB x.l = true := by unfold lenB; simp [hl]
            have q3 : slpB x.r x.l = true := by unfold absI at ha; unfold slpB; simp [hr]; split at ha <;> omega
            unfold sgB; rw [q1, q2, q3]; simp)
          obtain ⟨k1, k2⟩ := hk; obtain ⟨l1, l2⟩ := hl; obtain ⟨r1, r2⟩ := hr
          by_cases h0 : x.k = 0
          · have F : Hid (frcB x.k x.c x.d = (decide (x.c = 0) && decide (x.d = 0))) := Lib.hid (by unfold frcB; rw [if_pos h0])
            have e0 : (x.k == 0) = true := by simp [h0]
            cases h1 : rngB 0 x.a x.b
            all_goals
              go_enter Try.func72, Try.ntmps72
              go_wp2_with fail
              go_quiet ((first
      | (go_at_call 73; exact Calls.quiet_of_same (s_In' _ _ _ _))
      | (go_at_call 94; exact Calls.quiet_of_same (s_Abs' _ _ (by omega) (by omega)))))
              go_wp2_with (go_at_call 79; refine (s_Within _ _ _ (by omega) (by omega) _).mono ?_; rintro e w1 ⟨rfl, hb⟩; obtain ⟨H, hcc, hff, hzz⟩ := later_facts hb; clear hb; (try simp at hzz); (try simp only [World.heap_drewN, World.cell?_drewN, World.frozen?_drewN] at hcc hff); have hz0 : w.heap.size < w1.heap.size := (by omega))
              all_goals
                go_ret
                exact ⟨ret_b (by rw [S0.out, F.out, h1]; first | (simp_all; done) | (simp_all; omega)), (by repeat (first | exact Later.refl _ | refine Later.alloc ?_ _ | refine Later.drewN ?_ _ | refine Later.drew ?_ | refine Later.trans ?_ (Hid.out (by assumption))))⟩

          · have F : Hid (frcB x.k x.c x.d = rngB 1 x.c x.d) := Lib.hid (by unfold frcB; rw [if_neg h0])
            have e0 : (x.k == 0) = false := by simp [h0]
            cases h1 : rngB 0 x.a x.b
            all_goals
              go_enter Try.func72, Try.ntmps72
              go_wp2_with fail
              go_quiet ((first
      | (go_at_call 73; exact Calls.quiet_of_same (s_In' _ _ _ _))
      | (go_at_call 94; exact Calls.quiet_of_same (s_Abs' _ _ (by omega) (by omega)))))
              go_wp2_with (go_at_call 79; refine (s_Within _ _ _ (by omega) (by omega) _).mono ?_; rintro e w1 ⟨rfl, hb⟩; obtain ⟨H, hcc, hff, hzz⟩ := later_facts hb; clear hb; (try simp at hzz); (try simp only [World.heap_drewN, World.cell?_drewN, World.frozen?_drewN] at hcc hff); have hz0 : w.heap.size < w1.heap.size := (by omega))
              all_goals
                go_ret
                exact ⟨ret_b (by rw [S0.out, F.out, h1]; simp), (by repeat (first | exact Later.refl _ | refine Later.alloc ?_ _ | refine Later.drewN ?_ _ | refine Later.drew ?_ | refine Later.trans ?_ (Hid.out (by assumption))))⟩

        · have S0 : Hid (sgB x = false) := Lib.hid (by
            have q3 : slpB x.r x.l = false := by unfold absI at ha; unfold slpB; simp [hr]; intros; split at ha <;> omega
            unfold sgB; rw [q3]; simp)
          have ha0 : absI x.r > x.l := by omega
          obtain ⟨k1, k2⟩ := hk; obtain ⟨l1, l2⟩ := hl; obtain ⟨r1, r2⟩ := hr
          go_enter Try.func72, Try.ntmps72
          go_wp2_with fail
          go_quiet ((first
      | (go_at_call 73; exact Calls.quiet_of_same (s_In' _ _ _ _))
      | (go_at_call 94; exact Calls.quiet_of_same (s_Abs' _ _ (by omega) (by omega)))))
          go_wp2_with (go_at_call 79; refine (s_Within _ _ _ (by omega) (by omega) _).mono ?_; rintro e w1 ⟨rfl, hb⟩; obtain ⟨H, hcc, hff, hzz⟩ := later_facts hb; clear hb; (try simp at hzz); (try simp only [World.heap_drewN, World.cell?_drewN, World.frozen?_drewN] at hcc hff); have hz0 : w.heap.size < w1.heap.size := (by omega))
          all_goals
            go_ret
            exact ⟨ret_b (by rw [S0.out]), (by repeat (first | exact Later.refl _ | refine Later.alloc ?_ _ | refine Later.drewN ?_ _ | refine Later.drew ?_ | refine Later.trans ?_ (Hid.out (by assumption))))⟩

      · have S0 : Hid (sgB x = false) := Lib.hid (by rw [sgB_no]; omega)
        have c3 : (decide (-100000 ≤ x.r) && decide (x.r ≤ 100000)) = false := by simpa using hr
        obtain ⟨k1, k2⟩ := hk; obtain ⟨l1, l2⟩ := hl
        go_enter Try.func72, Try.ntmps72
        go_wp2_with fail
        go_quiet ((first
      | (go_at_call 73; exact Calls.quiet_of_same (s_In' _ _ _ _))
      | (go_at_call 94; exact Calls.quiet_of_same (s_Abs' _ _ (by omega) (by omega)))))
        go_wp2_with (go_at_call 79; refine (s_Within _ _ _ (by omega) (by omega) _).mono ?_; rintro e w1 ⟨rfl, hb⟩; obtain ⟨H, hcc, hff, hzz⟩ := later_facts hb; clear hb; (try simp at hzz); (try simp only [World.heap_drewN, World.cell?_drewN, World.frozen?_drewN] at hcc hff); have hz0 : w.heap.size < w1.heap.size := (by omega))
        all_goals
          go_ret
          exact ⟨ret_b (by rw [S0.out]), (by repeat (first | exact Later.refl _ | refine Later.alloc ?_ _ | refine Later.drewN ?_ _ | refine Later.drew ?_ | refine Later.trans ?_ (Hid.out (by assumption))))⟩

    · have S0 : Hid (sgB x = false) := Lib.hid (by rw [sgB_no]; omega)
      have c2 : (decide (1 ≤ x.l) && decide (x.l ≤ 200000)) = false := by simpa using hl
      obtain ⟨k1, k2⟩ := hk
      go_enter Try.func72, Try.ntmps72
      go_wp2_with fail
      go_quiet ((first
      | (go_at_call 73; exact Calls.quiet_of_same (s_In' _ _ _ _))
      | (go_at_call 94; exact Calls.quiet_of_same (s_Abs' _ _ (by omega) (by omega)))))
      go_wp2_with (go_at_call 79; refine (s_Within _ _ _ (by omega) (by omega) _).mono ?_; rintro e w1 ⟨rfl, hb⟩; obtain ⟨H, hcc, hff, hzz⟩ := later_facts hb; clear hb; (try simp at hzz); (try simp only [World.heap_drewN, World.cell?_drewN, World.frozen?_drewN] at hcc hff); have hz0 : w.heap.size < w1.heap.size := (by omega))
      all_goals
        go_ret
        exact ⟨ret_b (by rw [S0.out]), (by repeat (first | exact Later.refl _ | refine Later.alloc ?_ _ | refine Later.drewN ?_ _ | refine Later.drew ?_ | refine Later.trans ?_ (Hid.out (by assumption))))⟩

  · have S0 : Hid (sgB x = false) := Lib.hid (by rw [sgB_no]; omega)
    have c1 : (decide (0 ≤ x.k) && decide (x.k ≤ 4)) = false := by simpa using hk
    go_enter Try.func72, Try.ntmps72
    go_wp2_with fail
    go_quiet ((first
      | (go_at_call 73; exact Calls.quiet_of_same (s_In' _ _ _ _))
      | (go_at_call 94; exact Calls.quiet_of_same (s_Abs' _ _ (by omega) (by omega)))))
    go_wp2_with (go_at_call 79; refine (s_Within _ _ _ (by omega) (by omega) _).mono ?_; rintro e w1 ⟨rfl, hb⟩; obtain ⟨H, hcc, hff, hzz⟩ := later_facts hb; clear hb; (try simp at hzz); (try simp only [World.heap_drewN, World.cell?_drewN, World.frozen?_drewN] at hcc hff); have hz0 : w.heap.size < w1.heap.size := (by omega))
    all_goals
      go_ret
      exact ⟨ret_b (by rw [S0.out]), (by repeat (first | exact Later.refl _ | refine Later.alloc ?_ _ | refine Later.drewN ?_ _ | refine Later.drew ?_ | refine Later.trans ?_ (Hid.out (by assumption))))⟩

end Go.Proofs.Ytnmlkigpiaekjaa
namespace Go.Proofs.Ytnmlkigpiaekjaa
open Go.RowKit
set_option maxHeartbeats 2000000
set_option linter.unusedVariables false
set_option linter.unusedSimpArgs false
theorem s_Floor (a b : Int) (w : World) (h1 : -1000000000000 ≤ a) (h2 : a ≤ 1000000000000) (h3 : -1000000000000 ≤ b) (h4 : b ≤ 1000000000000) (h0 : b ≠ 0) :
    Calls Try.prog 86 #[.int .i64 a, .int .i64 b] w fun e w' => e = .returned (.int .i64 (flo a b)) ∧ w = w' := by
  have hb := tdiv_bd a b _ h1 h2
  go_enter Try.func86, Try.ntmps86
  go_wp2
  all_goals
    go_ret
    exact ⟨ret_i64 (by unfold flo; simp_all), rfl⟩
theorem divErr_0 (a b : Int) (h : divErr a b = 0) : -1000000000000 ≤ a ∧ a ≤ 1000000000000 ∧ -1000000000000 ≤ b ∧ b ≤ 1000000000000 ∧ b ≠ 0 := by
  unfold divErr at h
  split at h
  · omega
  · rename_i h1
    have h2 : isVB a = true ∧ isVB b = true := by simpa using h1
    rw [isVB_iff, isVB_iff] at h2
    split at h <;> omega
end Go.Proofs.Ytnmlkigpiaekjaa
namespace Go.Proofs.Ytnmlkigpiaekjaa
open Go.RowKit
set_option maxHeartbeats 2000000
set_option linter.unusedVariables false
set_option linter.unusedSimpArgs false
theorem s_Ceil (a b : Int) (w : World) (h1 : -1000000000000 ≤ a) (h2 : a ≤ 1000000000000) (h3 : -1000000000000 ≤ b) (h4 : b ≤ 1000000000000) (h0 : b ≠ 0) :
    Calls Try.prog 60 #[.int .i64 a, .int .i64 b] w fun e w' => e = .returned (.int .i64 (cei a b)) ∧ w = w' := by
  have hb := flo_bd (-a) b 1000000000000 (by omega) (by omega)
  have hc := cei_eq a b h0
  have H := Lib.hid hc; clear hc
  go_enter Try.func60, Try.ntmps60
  go_wp2_with (go_at_call 86; refine (s_Floor _ _ _ (by omega) (by omega) h3 h4 h0).mono ?_; rintro e w' ⟨rfl, rfl⟩)
  go_ret
  exact ⟨ret_i64 (H.out).symm, rfl⟩
end Go.Proofs.Ytnmlkigpiaekjaa
namespace Go.Proofs.Ytnmlkigpiaekjaa
open Go.RowKit
set_option maxHeartbeats 400000
set_option linter.unusedVariables false
theorem sq_succ (m : Int) : (m + 1) * (m + 1) = m * m + 2 * m + 1 := by rw [Int.add_mul, Int.mul_add]; omega
theorem mid_bd (m : Int) (h0 : 0 ≤ m) (h : m ≤ 1000000) : 0 ≤ m * m ∧ m * m ≤ 1000000000000 := ⟨sq_nn m, sq_mono m 1000000 h0 h⟩
theorem rootErr_in (n : Int) (h1 : 0 ≤ n) (h2 : n ≤ 1000000000000) : rootErr n = 0 := by unfold rootErr; rw [if_pos ⟨h1, h2⟩]
theorem rootErr_out (n : Int) (h : n < 0 ∨ 1000000000000 < n) : rootErr n = 2 := by unfold rootErr; rw [if_neg (by omega)]
end Go.Proofs.Ytnmlkigpiaekjaa
namespace Go.Proofs.Ytnmlkigpiaekjaa
open Go.RowKit
set_option maxHeartbeats 4000000
set_option linter.unusedVariables false
set_option linter.unusedSimpArgs false
theorem win_en2 (a b : Int) : (ivB a b && decide (0 ≤ a) && decide (b ≤ 10000000000)) = enB a b := by
  rw [Bool.eq_iff_iff]
  unfold enB
  simp [ivB_iff]
  omega
theorem s_IsEnergy (a b : Int) (w : World) : Calls Try.prog 46 #[.agg #[.int .i64 a, .int .i64 b]] w fun e w' => e = .returned (.bool (enB a b)) ∧ Later w w' := by
  have K : ∀ w, Calls Try.prog 79 #[.agg #[.int .i64 a, .int .i64 b], .int .i64 0, .int .i64 10000000000] w fun e w' => e = .returned (.bool (enB a b)) ∧ Later w w' := by
    intro w
    have E := Lib.hid (win_en2 a b)
    cases h : ivB a b
    all_goals
      go_enter Try.func79, Try.ntmps79
      go_wp2_with (go_at_call 100; refine (s_IsInterval _ _ _).mono ?_; rintro e w1 ⟨rfl, hb⟩; obtain ⟨H, hcc, hff, hzz⟩ := later_facts hb; clear hb; (try simp at hzz); (try simp only [World.heap_drewN, World.cell?_drewN, World.frozen?_drewN] at hcc hff); have hz0 : w.heap.size < w1.heap.size := (by omega); (try (have hz1 : w.heap.size + 1 < w1.heap.size := (by omega))); (try (have hz2 : w.heap.size + 1 + 1 < w1.heap.size := (by omega))); (try (have hz3 : w.heap.size + 1 + 1 + 1 < w1.heap.size := (by omega))); (try (have hz4 : w.heap.size + 1 + 1 + 1 + 1 < w1.heap.size := (by omega))))
      all_goals
        go_ret
        exact ⟨ret_b (by rw [← E.out, h]; first | (simp_all; done) | (simp_all; omega)), (by repeat (first | (with_reducible exact Later.refl _) | (with_reducible exact Hid.out (by assumption)) | (with_reducible refine Later.alloc ?_ _) | (with_reducible refine Later.setCell ?_ (by simp; omega) _) | (with_reducible refine Later.setCell ?_ (by simp) _) | (with_reducible refine Later.drewN ?_ _) | (with_reducible refine Later.drew ?_) | (with_reducible refine Later.trans ?_ (Hid.out (by assumption)))))⟩
  go_enter Try.func46, Try.ntmps46
  go_wp2_with (go_at_call 79; refine (K _).mono ?_; rintro e w1 ⟨rfl, hb⟩; obtain ⟨H, hcc, hff, hzz⟩ := later_facts hb; clear hb; (try simp at hzz); (try simp only [World.heap_drewN, World.cell?_drewN, World.frozen?_drewN] at hcc hff))
  go_ret
  exact ⟨rfl, (by repeat (first | (with_reducible exact Later.refl _) | (with_reducible exact Hid.out (by assumption)) | (with_reducible refine Later.alloc ?_ _) | (with_reducible refine Later.setCell ?_ (by simp; omega) _) | (with_reducible refine Later.setCell ?_ (by simp) _) | (with_reducible refine Later.drewN ?_ _) | (with_reducible refine Later.drew ?_) | (with_reducible refine Later.trans ?_ (Hid.out (by assumption)))))⟩
/-- the test decided ahead -/
theorem s_InB (n a b : Int) (c : Bool) (h : (decide (a ≤ n) && decide (n ≤ b)) = c) (w : World) : Calls Try.prog 73 #[.int .i64 n, .int .i64 a, .int .i64 b] w fun e w' => e = .returned (.bool c) ∧ w = w' := by
  subst h; exact s_In n a b w
theorem k2 (b l : Int) : 2 * b * l = b * (2 * l) := by rw [Int.mul_comm 2 b, Int.mul_assoc]
theorem s_Change (x : Sg) (w : World) (h : sgB x = true) :
    Calls Try.prog 58 #[.agg #[.int .i64 x.k, .int .i64 x.l, .int .i64 x.r, .int .i64 x.a, .int .i64 x.b, .int .i64 x.c, .int .i64 x.d]] w fun e w' => e = .returned (.agg #[.int .i64 (chL x), .int .i64 (chH x)]) ∧ Later w w' := by
  obtain ⟨b1, b2, b3⟩ := k_bd x h
  rw [sgB_iff] at h
  obtain ⟨⟨k1, k2⟩, ⟨l1, l2⟩, ⟨r1, r2, r3, r4⟩, ⟨a1, a2, a3⟩, _⟩ := h
  clear r3 r4
  unfold chL chH
  unfold kL kH at *
  rw [← Go.Proofs.Ytnmlkigpiaekjaa.k2 x.a x.l] at *
  rw [← Go.Proofs.Ytnmlkigpiaekjaa.k2 x.b x.l] at *
  go_enter Try.func58, Try.ntmps58
  go_wp2
  refine bodyPost_ret (v := .agg #[.int .i64 (-19612 * x.r - 2 * x.b * x.l), .int .i64 (-19612 * x.r - 2 * x.a * x.l)]) (by simp [results, Try.results58, go_sem, *]) rfl ⟨rfl, (by repeat (first | (with_reducible exact Later.refl _) | (with_reducible exact Hid.out (by assumption)) | (with_reducible refine Later.alloc ?_ _) | (with_reducible refine Later.setCell ?_ (by simp; omega) _) | (with_reducible refine Later.setCell ?_ (by simp) _) | (with_reducible refine Later.drewN ?_ _) | (with_reducible refine Later.drew ?_) | (with_reducible refine Later.trans ?_ (Hid.out (by assumption)))))⟩
theorem s_l06Sum (a b c d : Int) (w : World) (ha : -1000000000000 ≤ a) (ha' : a ≤ 1000000000000) (hb : -1000000000000 ≤ b) (hb' : b ≤ 1000000000000) (hc : -1000000000000 ≤ c) (hc' : c ≤ 1000000000000) (hd : -1000000000000 ≤ d) (hd' : d ≤ 1000000000000) :
    Calls Try.prog 57 #[.agg #[.int .i64 a, .int .i64 b], .agg #[.int .i64 c, .int .i64 d]] w fun e w' => e = .returned (.agg #[.int .i64 (a + c), .int .i64 (b + d)]) ∧ Later w w' := by
  go_enter Try.func57, Try.ntmps57
  go_wp2
  refine bodyPost_ret (v := .agg #[.int .i64 (a + c), .int .i64 (b + d)]) (by simp [results, Try.results57, go_sem, *]) rfl ⟨rfl, (by repeat (first | (with_reducible exact Later.refl _) | (with_reducible exact Hid.out (by assumption)) | (with_reducible refine Later.alloc ?_ _) | (with_reducible refine Later.setCell ?_ (by simp; omega) _) | (with_reducible refine Later.setCell ?_ (by simp) _) | (with_reducible refine Later.drewN ?_ _) | (with_reducible refine Later.drew ?_) | (with_reducible refine Later.trans ?_ (Hid.out (by assumption)))))⟩
theorem s_Check (a b : Int) (w : World) :
    Calls Try.prog 80 #[.agg #[.int .i64 a, .int .i64 b]] w fun e w' => e = .returned (.tuple #[.agg #[.int .i64 (okV (codE a b) a), .int .i64 (okV (codE a b) b)], .int .i64 (codE a b)]) ∧ Later w w' := by
  by_cases h0 : a < 0
  · have e : codE a b = 5 := by unfold codE; rw [if_pos h0]
    rw [e]
    go_enter Try.func80, Try.ntmps80
    go_wp2
    refine bodyPost_ret (v := .tuple #[.agg #[.int .i64 (okV 5 a), .int .i64 (okV 5 b)], .int .i64 5]) (by simp [results, Try.results80, go_sem, okV, *]) rfl ⟨rfl, (by repeat (first | (with_reducible exact Later.refl _) | (with_reducible exact Hid.out (by assumption)) | (with_reducible refine Later.alloc ?_ _) | (with_reducible refine Later.setCell ?_ (by simp; omega) _) | (with_reducible refine Later.setCell ?_ (by simp) _) | (with_reducible refine Later.drewN ?_ _) | (with_reducible refine Later.drew ?_) | (with_reducible refine Later.trans ?_ (Hid.out (by assumption)))))⟩
  · by_cases h1 : b ≤ 10000000000
    · have e : codE a b = 0 := by unfold codE; rw [if_neg h0, if_pos h1]
      rw [e]
      go_enter Try.func80, Try.ntmps80
      go_wp2
      refine bodyPost_ret (v := .tuple #[.agg #[.int .i64 (okV 0 a), .int .i64 (okV 0 b)], .int .i64 0]) (by simp [results, Try.results80, go_sem, okV, *]) rfl ⟨rfl, (by repeat (first | (with_reducible exact Later.refl _) | (with_reducible exact Hid.out (by assumption)) | (with_reducible refine Later.alloc ?_ _) | (with_reducible refine Later.setCell ?_ (by simp; omega) _) | (with_reducible refine Later.setCell ?_ (by simp) _) | (with_reducible refine Later.drewN ?_ _) | (with_reducible refine Later.drew ?_) | (with_reducible refine Later.trans ?_ (Hid.out (by assumption)))))⟩
    · have e : codE a b = 3 := by unfold codE; rw [if_neg h0, if_neg h1]
      rw [e]
      go_enter Try.func80, Try.ntmps80
      go_wp2
      refine bodyPost_ret (v := .tuple #[.agg #[.int .i64 (okV 3 a), .int .i64 (okV 3 b)], .int .i64 3]) (by simp [results, Try.results80, go_sem, okV, *]) rfl ⟨rfl, (by repeat (first | (with_reducible exact Later.refl _) | (with_reducible exact Hid.out (by assumption)) | (with_reducible refine Later.alloc ?_ _) | (with_reducible refine Later.setCell ?_ (by simp; omega) _) | (with_reducible refine Later.setCell ?_ (by simp) _) | (with_reducible refine Later.drewN ?_ _) | (with_reducible refine Later.drew ?_) | (with_reducible refine Later.trans ?_ (Hid.out (by assumption)))))⟩
end Go.Proofs.Ytnmlkigpiaekjaa
namespace Go.Proofs.Ytnmlkigpiaekjaa
open Go.RowKit
set_option maxHeartbeats 2000000
set_option linter.unusedVariables false
set_option linter.unusedSimpArgs false
set_option maxRecDepth 100000 in
theorem s_IsLayout (a : Option Addr) (n cap : Nat) (L : List Sg) (w : World) (hs : Sgs w a n L) :
    Calls Try.prog 38 #[.agg #[.slice a n cap]] w fun e w' => e = .returned (.bool (layB L)) ∧ Later w w' := by
  have HS := Lib.hid hs
  have HL := Lib.hid hs.1
  have hn := hs.2.1
  clear hs
  by_cases h : 3 ≤ n ∧ n ≤ 24
  · obtain ⟨h1, h2⟩ := h
    go_enter Try.func38, Try.ntmps38
    go_wp2_with fail
    go_loopw [4, 5] (fun hh i wr => ∃ k : Nat, k ≤ n ∧ i = .int .i64 k ∧ hh = .int .i64 (upR L k) ∧ okB L k = true ∧ wr.cell? ⟨w.heap.size, 0, none⟩ = some (.slice a n cap) ∧ w.heap.size < wr.heap.size ∧ Later w wr) (fun _ i _ => n - (intOf i).toNat)
    case atStart => exact ⟨0, by omega, rfl, by rw [upR_0], okB_0 L, by simp, by simp, (Later.refl _).alloc _⟩
    case round =>
      obtain ⟨k, hk, rfl, rfl, hok, cb, hsz, hlw⟩ := hrel
      have HO := Lib.hid hok; have HW := Lib.hid hlw
      clear hok hlw
      obtain ⟨bd1, bd2, _, _⟩ := up_bd L k (by rw [HL.out]; exact hk) HO.out
      by_cases hlt : k < n
      · obtain ⟨b', off', rfl, hb', hc⟩ := (HS.out.later HW.out).at k hlt
        obtain ⟨c0, c1, c2, c3, c4, c5, c6⟩ := hc
        cases hv : sgB (sx L k)
        · have HV := Lib.hid (layB_bad HL.out hlt hv)
          go_wp2_with (go_at_call 72; refine (s_IsSegment (sx L k) _).mono ?_; rintro e w1 ⟨rfl, hb⟩; obtain ⟨H, hcc, hff, hzz⟩ := later_facts hb; clear hb; (try simp at hzz); (try simp only [World.heap_drewN, World.cell?_drewN, World.frozen?_drewN] at hcc hff))
          go_ret
          exact ⟨ret_b (by rw [HV.out]), (by repeat (first | exact Later.refl _ | exact Hid.out (by assumption) | refine Later.set_at ?_ ?_ _ _ | refine Later.alloc ?_ _ | refine Later.drewN ?_ _ | refine Later.drew ?_ | refine Later.trans ?_ (Hid.out (by assumption))))⟩
        · have HV := Lib.hid hv
          have hr := (sgB_iff _).1 hv
          have r1 := hr.2.2.1.1; have r2 := hr.2.2.1.2.1
          clear hr
          go_wp2_with (go_at_call 72; refine (s_IsSegment (sx L k) _).mono ?_; rintro e w1 ⟨rfl, hb⟩; obtain ⟨H, hcc, hff, hzz⟩ := later_facts hb; clear hb; (try simp at hzz); (try simp only [World.heap_drewN, World.cell?_drewN, World.frozen?_drewN] at hcc hff))
          go_roundw
          case rel => exact ⟨k + 1, by omega, by go_num, by rw [upR_succ L k (by rw [HL.out]; exact hlt)], by rw [okB_succ L k (by rw [HL.out]; exact hlt), HO.out, HV.out]; rfl, by rw [hcc _ _ hsz]; exact cb, by omega, (by repeat (first | exact Later.refl _ | exact Hid.out (by assumption) | refine Later.set_at ?_ ?_ _ _ | refine Later.alloc ?_ _ | refine Later.drewN ?_ _ | refine Later.drew ?_ | refine Later.trans ?_ (Hid.out (by assumption))))⟩
          case measure => simp [intOf]; omega
      · obtain rfl : k = n := by omega
        obtain ⟨b', off', rfl, hb', hc⟩ := (HS.out.later HW.out).at (k - 1) (by omega)
        obtain ⟨c0, c1, c2, c3, c4, c5, c6⟩ := hc
        clear bd1 bd2
        by_cases hr0 : upR L k = 0
        · have er : (upR L k == 0) = true := by simpa using hr0
          by_cases h4 : (sx L (k - 1)).k = 4
          · have e4 : ((sx L (k - 1)).k == 4) = true := by simpa using h4
            have HF : Hid (layB L = true) := Lib.hid (by rw [layB_fin HL.out h1 h2 h4 HO.out, hr0]; simp)
            clear hr0 h4
            go_wp2
            go_ret
            exact ⟨ret_b (by rw [HF.out]), (by repeat (first | exact Later.refl _ | exact Hid.out (by assumption) | refine Later.set_at ?_ ?_ _ _ | refine Later.alloc ?_ _ | refine Later.drewN ?_ _ | refine Later.drew ?_ | refine Later.trans ?_ (Hid.out (by assumption))))⟩
          · have e4 : ((sx L (k - 1)).k == 4) = false := by simpa using h4
            have HF : Hid (layB L = false) := Lib.hid (layB_last HL.out h4)
            clear hr0 h4
            go_wp2
            go_ret
            exact ⟨ret_b (by rw [HF.out]), (by repeat (first | exact Later.refl _ | exact Hid.out (by assumption) | refine Later.set_at ?_ ?_ _ _ | refine Later.alloc ?_ _ | refine Later.drewN ?_ _ | refine Later.drew ?_ | refine Later.trans ?_ (Hid.out (by assumption))))⟩
        · have er : (upR L k == 0) = false := by simpa using hr0
          have HF : Hid (layB L = false) := Lib.hid (by rw [layB_no]; rintro ⟨_, _, _, e, _⟩; rw [HL.out] at e; exact hr0 e)
          clear hr0
          go_wp2
          go_ret
          exact ⟨ret_b (by rw [HF.out]), (by repeat (first | exact Later.refl _ | exact Hid.out (by assumption) | refine Later.set_at ?_ ?_ _ _ | refine Later.alloc ?_ _ | refine Later.drewN ?_ _ | refine Later.drew ?_ | refine Later.trans ?_ (Hid.out (by assumption))))⟩
  · have HF := Lib.hid (layB_len HL.out h)
    have hn : n < 3 ∨ 24 < n := by omega
    clear h
    rcases hn with hn | hn
    all_goals
      go_enter Try.func38, Try.ntmps38
      go_wp2_with fail
      go_ret
      exact ⟨ret_b (by rw [HF.out]), (by repeat (first | exact Later.refl _ | exact Hid.out (by assumption) | refine Later.set_at ?_ ?_ _ _ | refine Later.alloc ?_ _ | refine Later.drewN ?_ _ | refine Later.drew ?_ | refine Later.trans ?_ (Hid.out (by assumption))))⟩
end Go.Proofs.Ytnmlkigpiaekjaa
namespace Go.Proofs.Ytnmlkigpiaekjaa
open Go.RowKit
set_option maxHeartbeats 4000000
set_option linter.unusedVariables false
set_option linter.unusedSimpArgs false
theorem s_Range (a : Option Addr) (n cap : Nat) (f c : Int) (b : Bool) (w : World) (hn : n ≤ 9223372036854775807) (h : ((decide (0 ≤ f) && decide (f ≤ (n : Int) - 1)) && (decide (0 ≤ c) && decide (c ≤ 24))) = b) :
    Calls Try.prog 39 #[.agg #[.slice a n cap], .int .i64 f, .int .i64 c] w fun e w' => e = .returned (.bool b) ∧ Later w w' := by
  subst h
  cases h1 : (decide (0 ≤ f) && decide (f ≤ (n : Int) - 1))
  all_goals
    have H1 := Lib.hid h1
    clear h1
  · go_enter Try.func39, Try.ntmps39
    go_wp2_with (go_at_call 73; refine (s_InB f 0 ((n : Int) - 1) false H1.out _).mono ?_; rintro e w' ⟨rfl, rfl⟩)
    go_ret
    exact ⟨by simp, (by repeat (first | (with_reducible exact Later.refl _) | (with_reducible exact Hid.out (by assumption)) | (with_reducible refine Later.alloc ?_ _) | (with_reducible refine Later.setCell ?_ (by simp; omega) _) | (with_reducible refine Later.setCell ?_ (by simp) _) | (with_reducible refine Later.drewN ?_ _) | (with_reducible refine Later.drew ?_) | (with_reducible refine Later.trans ?_ (Hid.out (by assumption)))))⟩
  · go_enter Try.func39, Try.ntmps39
    go_wp2_with fail
    refine (s_InB f 0 ((n : Int) - 1) true H1.out _).mono ?_
    rintro e w' ⟨rfl, rfl⟩
    go_wp2_with fail
    refine (s_In c 0 24 _).mono ?_
    rintro e w' ⟨rfl, rfl⟩
    go_wp2_with fail
    go_ret
    exact ⟨by simp, (by repeat (first | (with_reducible exact Later.refl _) | (with_reducible exact Hid.out (by assumption)) | (with_reducible refine Later.alloc ?_ _) | (with_reducible refine Later.setCell ?_ (by simp; omega) _) | (with_reducible refine Later.setCell ?_ (by simp) _) | (with_reducible refine Later.drewN ?_ _) | (with_reducible refine Later.drew ?_) | (with_reducible refine Later.trans ?_ (Hid.out (by assumption)))))⟩
theorem s_l06Segment (a : Option Addr) (n cap k : Nat) (L : List Sg) (w : World) (hs : Sgs w a n L) (hn : 0 < n) :
    Calls Try.prog 48 #[.agg #[.slice a n cap], .int .i64 (k : Int)] w fun e w' => e = .returned (.agg #[.int .i64 (sx L (k % n)).k, .int .i64 (sx L (k % n)).l, .int .i64 (sx L (k % n)).r, .int .i64 (sx L (k % n)).a, .int .i64 (sx L (k % n)).b, .int .i64 (sx L (k % n)).c, .int .i64 (sx L (k % n)).d]) ∧ Later w w' := by
  obtain ⟨r, hr⟩ : ∃ r, r = k % n := ⟨_, rfl⟩
  have hrn : r < n := by rw [hr]; exact Nat.mod_lt _ hn
  have hmod : (k : Int).tmod (n : Int) = (r : Int) := by rw [Int.tmod_eq_emod_of_nonneg (by omega), hr, Int.natCast_emod]
  rw [← hr]
  have hn0 : ¬ n = 0 := by omega
  have hnm := hs.2.1
  obtain ⟨b, off, rfl, hb, hcc⟩ := hs.at r hrn
  obtain ⟨c0, c1, c2, c3, c4, c5, c6⟩ := hcc
  generalize sx L r = x at c0 c1 c2 c3 c4 c5 c6
  clear hs hr
  go_enter Try.func48, Try.ntmps48
  go_wp2_with fail
  go_region
  all_goals
    go_wp2_with fail
    refine bodyPost_ret (v := .agg #[.int .i64 x.k, .int .i64 x.l, .int .i64 x.r, .int .i64 x.a, .int .i64 x.b, .int .i64 x.c, .int .i64 x.d]) (by simp [results, Try.results48, go_sem, *]) rfl ⟨rfl, (by repeat (first | (with_reducible exact Later.refl _) | (with_reducible exact Hid.out (by assumption)) | (with_reducible refine Later.alloc ?_ _) | (with_reducible refine Later.setCell ?_ (by simp; omega) _) | (with_reducible refine Later.setCell ?_ (by simp) _) | (with_reducible refine Later.drewN ?_ _) | (with_reducible refine Later.drew ?_) | (with_reducible refine Later.trans ?_ (Hid.out (by assumption)))))⟩
end Go.Proofs.Ytnmlkigpiaekjaa
namespace Go.Proofs.Ytnmlkigpiaekjaa
open Go.RowKit
set_option maxHeartbeats 4000000
set_option linter.unusedVariables false
set_option linter.unusedSimpArgs false
set_option maxRecDepth 100000 in
theorem s_Needed (a : Option Addr) (n cap : Nat) (L : List Sg) (f c : Nat) (w : World) (hs : Sgs w a n L) (hn : 0 < n) (hf : f ≤ 1000) (hc : c ≤ 24) (hok : okB L L.length = true) :
    Calls Try.prog 41 #[.agg #[.slice a n cap], .int .i64 (f : Int), .int .i64 (c : Int)] w fun e w' => e = .returned (.int .i64 (ndN (runS L f c) c)) ∧ Later w w' := by
  obtain ⟨R, hR⟩ : ∃ R, R = runS L f c := ⟨_, rfl⟩
  have hRl : R.length = c := by rw [hR, runS_len]
  have hokR : okB R R.length = true := by rw [hR]; exact runS_okB L f c hok (by rw [hs.1]; exact hn)
  have HAT : Hid (∀ j, j < c → sx L ((f + j) % n) = sx R j) := Lib.hid (fun j hj => by rw [hR, runS_at L f c j hj, hs.1])
  rw [← hR]
  have HS := Lib.hid hs; have HRL := Lib.hid hRl; have HOK := Lib.hid hokR
  clear hs hR hRl hokR hok
  go_enter Try.func41, Try.ntmps41
  go_wp2_with fail
  go_loopw [7, 8, 9] (fun t s i wr => ∃ j : Nat, j ≤ c ∧ i = .int .i64 ((f + j : Nat) : Int) ∧ t = .int .i64 (ndN R j) ∧ s = .int .i64 (clL R j) ∧ wr.cell? ⟨w.heap.size, 0, none⟩ = some (.slice a n cap) ∧ Later w wr) (fun _ _ i _ => (f + c) - (intOf i).toNat)
  case atStart => exact ⟨0, by omega, rfl, rfl, by rw [clL_0], by simp, (by repeat (first | (with_reducible exact Later.refl _) | (with_reducible exact Hid.out (by assumption)) | (with_reducible refine Later.alloc ?_ _) | (with_reducible refine Later.setCell ?_ (by simp; omega) _) | (with_reducible refine Later.setCell ?_ (by simp) _) | (with_reducible refine Later.drewN ?_ _) | (with_reducible refine Later.drew ?_) | (with_reducible refine Later.trans ?_ (Hid.out (by assumption)))))⟩
  case round =>
    obtain ⟨j, hj, rfl, rfl, rfl, hc1, hlw⟩ := hrel
    have HW := Lib.hid hlw
    have hz1 := sg_cell_lt hc1
    clear hlw
    by_cases hlt : j < c
    · have hseg : sgB (sx R j) = true := okB_at R R.length j (Nat.le_refl _) (by rw [HRL.out]; exact hlt) HOK.out
      obtain ⟨d1, d2, d3⟩ := cl_bd R HOK.out j (by rw [HRL.out]; exact hj)
      obtain ⟨d4, d5, d6⟩ := cl_bd R HOK.out (j + 1) (by rw [HRL.out]; exact hlt)
      obtain ⟨d7, d8⟩ := ndN_bd R HOK.out j (by rw [HRL.out]; exact hj)
      have q1 : clL R j + chL (sx R j) = clL R (j + 1) := by rw [clL_succ R j (by rw [HRL.out]; exact hlt)]
      obtain ⟨x, hx⟩ : ∃ x, x = clL R (j + 1) := ⟨_, rfl⟩
      rw [← hx] at q1 d4
      have hx0 : -300000000000 ≤ x := by omega
      have hx2 : x ≤ 300000000000 := by omega
      have HN : Hid (ndN R (j + 1) = max (ndN R j) (-x)) := Lib.hid (by rw [hx]; exact ndN_succ R j)
      have HX := Lib.hid hx
      have HWR : Hid (IntKind.i64.wrap (clL R j + chL (sx R j)) = x) := Lib.hid (by rw [q1]; exact IntWalk.i64_in _ ⟨by omega, by omega⟩)
      have hfd : ∀ w : World, (Instr.field 28 (.agg #[.int .i64 (chL (sx R j)), .int .i64 (chH (sx R j))]) 0).run Try.prog w = .ok (.int .i64 (chL (sx R j))) w := fun _ => by kernel_rfl
      clear d1 d2 d3 d4 d5 d6 d8 hx
      go_wp2_with fail
      refine (s_l06Segment a n cap (f + j) L _ (HS.out.later (by repeat (first | (with_reducible exact Later.refl _) | (with_reducible exact Hid.out (by assumption)) | (with_reducible refine Later.alloc ?_ _) | (with_reducible refine Later.setCell ?_ (by simp; omega) _) | (with_reducible refine Later.setCell ?_ (by simp) _) | (with_reducible refine Later.drewN ?_ _) | (with_reducible refine Later.drew ?_) | (with_reducible refine Later.trans ?_ (Hid.out (by assumption)))))) hn).mono ?_
      rw [HAT.out j hlt]
      rintro e w2 ⟨rfl, hb2⟩
      have W2 : Hid (Later w w2) := Lib.hid (Later.trans (by repeat (first | (with_reducible exact Later.refl _) | (with_reducible exact Hid.out (by assumption)) | (with_reducible refine Later.alloc ?_ _) | (with_reducible refine Later.setCell ?_ (by simp; omega) _) | (with_reducible refine Later.setCell ?_ (by simp) _) | (with_reducible refine Later.drewN ?_ _) | (with_reducible refine Later.drew ?_) | (with_reducible refine Later.trans ?_ (Hid.out (by assumption))))) hb2)
      have hc2 : w2.cell? ⟨w.heap.size, 0, none⟩ = some (.slice a n cap) := (hb2.cell (p := ⟨w.heap.size, 0, none⟩) hz1).trans hc1
      clear hb2
      go_wp2_with fail
      refine (s_Change (sx R j) _ hseg).mono ?_
      rintro e w3 ⟨rfl, hb3⟩
      have W3 : Hid (Later w w3) := Lib.hid (Later.trans (by repeat (first | (with_reducible exact Later.refl _) | (with_reducible exact Hid.out (by assumption)) | (with_reducible refine Later.alloc ?_ _) | (with_reducible refine Later.setCell ?_ (by simp; omega) _) | (with_reducible refine Later.setCell ?_ (by simp) _) | (with_reducible refine Later.drewN ?_ _) | (with_reducible refine Later.drew ?_) | (with_reducible refine Later.trans ?_ (Hid.out (by assumption))))) hb3)
      have hz2 := sg_cell_lt hc2
      have hc3 : w3.cell? ⟨w.heap.size, 0, none⟩ = some (.slice a n cap) := (hb3.cell (p := ⟨w.heap.size, 0, none⟩) hz2).trans hc2
      clear hb3 hc2 hc1
      have hwr := HWR.out
      go_wp2_with fail
      go_roundw
      case rel =>
        refine ⟨j + 1, by omega, by go_num, ?_, by rw [HX.out], hc3, W3.out⟩
        rw [HN.out]
        congr 1
        split <;> omega
      case measure => simp [intOf]; omega
    · obtain rfl : j = c := by omega
      go_wp2_with fail
      go_ret
      exact ⟨rfl, HW.out⟩
theorem s_EnergyNeeded (s : Option Addr) (n cap : Nat) (L : List Sg) (f c : Int) (w : World) (hs : Sgs w s n L) :
    Calls Try.prog 18 #[.agg #[.slice s n cap], .int .i64 f, .int .i64 c] w fun e w' => e = .returned (.tuple #[.int .i64 (enV L f c), .int .i64 (enE L f c)]) ∧ Later w w' := by
  have HS := Lib.hid hs
  have HL := Lib.hid hs.1
  have hnm := hs.2.1
  clear hs
  cases hv : layB L
  · have E0 : sgE L f c = 1 := by unfold sgE; rw [hv]; rfl
    have E1 : Hid (enE L f c = 1) := Lib.hid (by unfold enE; rw [E0]; rfl)
    have E2 : Hid (enV L f c = 0) := Lib.hid (by unfold enV; rw [E1.out]; rfl)
    clear E0
    go_enter Try.func18, Try.ntmps18
    go_wp2_with fail
    refine (s_IsLayout s n cap L _ (HS.out.later (by repeat (first | (with_reducible exact Later.refl _) | (with_reducible exact Hid.out (by assumption)) | (with_reducible refine Later.alloc ?_ _) | (with_reducible refine Later.setCell ?_ (by simp; omega) _) | (with_reducible refine Later.setCell ?_ (by simp) _) | (with_reducible refine Later.drewN ?_ _) | (with_reducible refine Later.drew ?_) | (with_reducible refine Later.trans ?_ (Hid.out (by assumption))))))).mono ?_
    rw [hv]
    rintro e w1 ⟨rfl, hb⟩
    have H1 := Lib.hid hb
    clear hb
    go_wp2_with fail
    go_ret2
    exact ⟨ret_2i E2.out.symm E1.out.symm, (by repeat (first | (with_reducible exact Later.refl _) | (with_reducible exact Hid.out (by assumption)) | (with_reducible refine Later.alloc ?_ _) | (with_reducible refine Later.setCell ?_ (by simp; omega) _) | (with_reducible refine Later.setCell ?_ (by simp) _) | (with_reducible refine Later.drewN ?_ _) | (with_reducible refine Later.drew ?_) | (with_reducible refine Later.trans ?_ (Hid.out (by assumption)))))⟩
  · by_cases hr : 0 ≤ f ∧ f < (n : Int) ∧ 0 ≤ c ∧ c ≤ 24
    · obtain ⟨f', rfl⟩ : ∃ f' : Nat, f = (f' : Int) := ⟨f.toNat, by omega⟩
      obtain ⟨c', rfl⟩ : ∃ c' : Nat, c = (c' : Int) := ⟨c.toNat, by omega⟩
      have E0 : sgE L (f' : Int) (c' : Int) = 0 := by unfold sgE; rw [hv, if_pos rfl, HL.out, if_pos hr]
      have HFE : Hid (enE L (f' : Int) (c' : Int) = if ndN (runS L f' c') c' ≤ 10000000000 then 0 else 3) := Lib.hid (by unfold enE; rw [if_pos E0]; simp)
      have HFV : Hid (enV L (f' : Int) (c' : Int) = if ndN (runS L f' c') c' ≤ 10000000000 then ndN (runS L f' c') c' else 0) := Lib.hid (by unfold enV; rw [HFE.out]; simp)
      have hv' := (layB_iff L).1 hv
      have h24 : n ≤ 24 := by have := HL.out; omega
      have hn0 : 0 < n := by have := HL.out; omega
      have HOK := Lib.hid hv'.2.2.1
      have HB : Hid (((decide (0 ≤ (f' : Int)) && decide ((f' : Int) ≤ (n : Int) - 1)) && (decide (0 ≤ (c' : Int)) && decide ((c' : Int) ≤ 24))) = true) := Lib.hid (by simp; omega)
      have hf2 : f' ≤ 1000 := by omega
      have hc2 : c' ≤ 24 := by omega
      clear E0 hv' hr
      go_enter Try.func18, Try.ntmps18
      go_wp2_with fail
      refine (s_IsLayout s n cap L _ (HS.out.later (by repeat (first | (with_reducible exact Later.refl _) | (with_reducible exact Hid.out (by assumption)) | (with_reducible refine Later.alloc ?_ _) | (with_reducible refine Later.setCell ?_ (by simp; omega) _) | (with_reducible refine Later.setCell ?_ (by simp) _) | (with_reducible refine Later.drewN ?_ _) | (with_reducible refine Later.drew ?_) | (with_reducible refine Later.trans ?_ (Hid.out (by assumption))))))).mono ?_
      rw [hv]
      rintro e w1 ⟨rfl, hb⟩
      have H1 : Hid (Later w w1) := Lib.hid (Later.trans (by repeat (first | (with_reducible exact Later.refl _) | (with_reducible exact Hid.out (by assumption)) | (with_reducible refine Later.alloc ?_ _) | (with_reducible refine Later.setCell ?_ (by simp; omega) _) | (with_reducible refine Later.setCell ?_ (by simp) _) | (with_reducible refine Later.drewN ?_ _) | (with_reducible refine Later.drew ?_) | (with_reducible refine Later.trans ?_ (Hid.out (by assumption))))) hb)
      have hc1 : w1.cell? ⟨w.heap.size, 0, none⟩ = some (.slice s n cap) := by rw [hb.cell (p := ⟨w.heap.size, 0, none⟩) (by simp)]; simp
      have hz1 := sg_cell_lt hc1
      clear hb
      go_wp2_with fail
      refine (s_Range s n cap f' c' true _ hnm HB.out).mono ?_
      rintro e w2 ⟨rfl, hb⟩
      have H2 : Hid (Later w w2) := Lib.hid (Later.trans (by repeat (first | (with_reducible exact Later.refl _) | (with_reducible exact Hid.out (by assumption)) | (with_reducible refine Later.alloc ?_ _) | (with_reducible refine Later.setCell ?_ (by simp; omega) _) | (with_reducible refine Later.setCell ?_ (by simp) _) | (with_reducible refine Later.drewN ?_ _) | (with_reducible refine Later.drew ?_) | (with_reducible refine Later.trans ?_ (Hid.out (by assumption))))) hb)
      have hc3 : w2.cell? ⟨w.heap.size, 0, none⟩ = some (.slice s n cap) := (hb.cell (p := ⟨w.heap.size, 0, none⟩) hz1).trans hc1
      clear hb
      go_wp2_with fail
      refine (s_Needed s n cap L f' c' _ (HS.out.later (by repeat (first | (with_reducible exact Later.refl _) | (with_reducible exact Hid.out (by assumption)) | (with_reducible refine Later.alloc ?_ _) | (with_reducible refine Later.setCell ?_ (by simp; omega) _) | (with_reducible refine Later.setCell ?_ (by simp) _) | (with_reducible refine Later.drewN ?_ _) | (with_reducible refine Later.drew ?_) | (with_reducible refine Later.trans ?_ (Hid.out (by assumption)))))) hn0 hf2 hc2 HOK.out).mono ?_
      obtain ⟨N, hN⟩ : ∃ N, N = ndN (runS L f' c') c' := ⟨_, rfl⟩
      rw [← hN]
      rw [← hN] at HFE HFV
      clear hN
      rintro e w4 ⟨rfl, hb⟩
      have H4 : Hid (Later w w4) := Lib.hid (Later.trans (by repeat (first | (with_reducible exact Later.refl _) | (with_reducible exact Hid.out (by assumption)) | (with_reducible refine Later.alloc ?_ _) | (with_reducible refine Later.setCell ?_ (by simp; omega) _) | (with_reducible refine Later.setCell ?_ (by simp) _) | (with_reducible refine Later.drewN ?_ _) | (with_reducible refine Later.drew ?_) | (with_reducible refine Later.trans ?_ (Hid.out (by assumption))))) hb)
      clear hb
      by_cases hbig : N ≤ 10000000000
      · have E1 : Hid (enE L (f' : Int) (c' : Int) = 0) := Lib.hid (by rw [HFE.out, if_pos hbig])
        have E2 : Hid (enV L (f' : Int) (c' : Int) = N) := Lib.hid (by rw [HFV.out, if_pos hbig])
        go_wp2_with fail
        go_ret2
        exact ⟨ret_2i E2.out.symm E1.out.symm, H4.out⟩
      · have E1 : Hid (enE L (f' : Int) (c' : Int) = 3) := Lib.hid (by rw [HFE.out, if_neg hbig])
        have E2 : Hid (enV L (f' : Int) (c' : Int) = 0) := Lib.hid (by rw [HFV.out, if_neg hbig])
        go_wp2_with fail
        go_ret2
        exact ⟨ret_2i E2.out.symm E1.out.symm, H4.out⟩
    · have E0 : sgE L f c = 2 := by unfold sgE; rw [hv, if_pos rfl, HL.out, if_neg hr]
      have E1 : Hid (enE L f c = 2) := Lib.hid (by unfold enE; rw [E0]; rfl)
      have E2 : Hid (enV L f c = 0) := Lib.hid (by unfold enV; rw [E1.out]; rfl)
      have HB : Hid (((decide (0 ≤ f) && decide (f ≤ (n : Int) - 1)) && (decide (0 ≤ c) && decide (c ≤ 24))) = false) := Lib.hid (by rw [Bool.eq_false_iff]; simp; omega)
      clear E0 hr
      go_enter Try.func18, Try.ntmps18
      go_wp2_with fail
      refine (s_IsLayout s n cap L _ (HS.out.later (by repeat (first | (with_reducible exact Later.refl _) | (with_reducible exact Hid.out (by assumption)) | (with_reducible refine Later.alloc ?_ _) | (with_reducible refine Later.setCell ?_ (by simp; omega) _) | (with_reducible refine Later.setCell ?_ (by simp) _) | (with_reducible refine Later.drewN ?_ _) | (with_reducible refine Later.drew ?_) | (with_reducible refine Later.trans ?_ (Hid.out (by assumption))))))).mono ?_
      rw [hv]
      rintro e w1 ⟨rfl, hb⟩
      have H1 : Hid (Later w w1) := Lib.hid (Later.trans (by repeat (first | (with_reducible exact Later.refl _) | (with_reducible exact Hid.out (by assumption)) | (with_reducible refine Later.alloc ?_ _) | (with_reducible refine Later.setCell ?_ (by simp; omega) _) | (with_reducible refine Later.setCell ?_ (by simp) _) | (with_reducible refine Later.drewN ?_ _) | (with_reducible refine Later.drew ?_) | (with_reducible refine Later.trans ?_ (Hid.out (by assumption))))) hb)
      have hc1 : w1.cell? ⟨w.heap.size, 0, none⟩ = some (.slice s n cap) := by rw [hb.cell (p := ⟨w.heap.size, 0, none⟩) (by simp)]; simp
      clear hb
      go_wp2_with fail
      refine (s_Range s n cap f c false _ hnm HB.out).mono ?_
      rintro e w2 ⟨rfl, hb⟩
      have H2 := Lib.hid hb
      clear hb
      go_wp2_with fail
      go_ret2
      exact ⟨ret_2i E2.out.symm E1.out.symm, (by repeat (first | (with_reducible exact Later.refl _) | (with_reducible exact Hid.out (by assumption)) | (with_reducible refine Later.alloc ?_ _) | (with_reducible refine Later.setCell ?_ (by simp; omega) _) | (with_reducible refine Later.setCell ?_ (by simp) _) | (with_reducible refine Later.drewN ?_ _) | (with_reducible refine Later.drew ?_) | (with_reducible refine Later.trans ?_ (Hid.out (by assumption)))))⟩
end Go.Proofs.Ytnmlkigpiaekjaa
namespace Go.Proofs.Ytnmlkigpiaekjaa
open Go.RowKit
set_option maxHeartbeats 4000000
set_option linter.unusedVariables false
set_option linter.unusedSimpArgs false
set_option maxRecDepth 100000 in
theorem walk_FnExactEnergyNeeded (a : Option Addr) (n cap : Nat) (L : List Sg) (p : Int) (q : Int) (w : World) (hcap : n ≤ cap) (hs : Sgs w a n L) (u1 : (Lit.int .i64 p).wf = true) (u2 : (Lit.int .i64 q).wf = true) :
    Calls Try.prog 6 #[.agg #[.slice a n cap], .int .i64 p, .int .i64 q] w fun e w' => e = .returned (.bool true) ∧ Later w w' := by
  have HS := Lib.hid hs
  have hn := hs.2.1
  have HLn := Lib.hid hs.1
  obtain ⟨v1, v1'⟩ := i64w u1
  clear u1
  obtain ⟨v2, v2'⟩ := i64w u2
  clear u2
  clear hs
  have e0 : (enV L p q != enV L p q) = false := by simp
  have e1 : (enE L p q != enE L p q) = false := by simp
  by_cases hbig : 1048576 < n
  · have hz := Lib.hid (szI_big hbig)
    go_enter Try.func6, Try.ntmps6
    go_wp2_with (go_at_call 19; refine (l_szLayout a n cap _ hn).mono ?_; rw [hz.out]; rintro e w1 ⟨rfl, hb⟩; have H := Lib.hid hb; clear hb)
    go_ret
    exact ⟨rfl, (by repeat (first | (with_reducible exact Later.refl _) | (with_reducible exact Hid.out (by assumption)) | (with_reducible refine Later.alloc ?_ _) | (with_reducible refine Later.setCell ?_ (by simp; omega) _) | (with_reducible refine Later.setCell ?_ (by simp) _) | (with_reducible refine Later.drewN ?_ _) | (with_reducible refine Later.drew ?_) | (with_reducible refine Later.trans ?_ (Hid.out (by assumption)))))⟩
  have hle : n ≤ 1048576 := by omega
  have hz := Lib.hid (szI_ok hle)
  clear hbig
  go_enter Try.func6, Try.ntmps6
  go_wp2_with fail
  refine (l_szLayout a n cap _ hn).mono ?_
  rw [hz.out]
  rintro e w1 ⟨rfl, hb⟩
  have b1 : w.heap.size < w1.heap.size := by have := hb.size; simp at this; omega
  have c1 : w1.cell? ⟨w.heap.size, 0, none⟩ = some (.slice a n cap) := by rw [hb.cell (p := ⟨w.heap.size, 0, none⟩) (by simp)]; simp
  have W1 : Hid (Later w w1) := Lib.hid (((Later.refl _).alloc _).trans hb)
  clear hb
  go_wp2_with fail
  refine (l_toLayout a n cap L _ (HS.out.later W1.out) hle).mono ?_
  rintro e w2 ⟨g, rfl, hg, hr, hb⟩
  have hb : Later w1 w2 := hb
  have z2 := hb.size
  have b2 : w.heap.size < w2.heap.size := Nat.lt_of_lt_of_le b1 z2
  have c2 : w2.cell? ⟨w.heap.size, 0, none⟩ = some (.slice a n cap) := by rw [hb.cell (p := ⟨w.heap.size, 0, none⟩) b1]; exact c1
  have W2 : Hid (Later w w2) := Lib.hid (W1.out.trans hb)
  have S0 := Lib.hid (hr.sgs HS.out.1 (by omega) HS.out.2.2.2)
  clear hb c1 hr hg
  go_wp2_with fail
  refine (s_EnergyNeeded _ n n L p q _ S0.out).mono ?_
  rintro e w3 ⟨rfl, hb⟩
  have hb : Later w2 w3 := hb
  have z3 := hb.size
  have b3 : w.heap.size < w3.heap.size := Nat.lt_of_lt_of_le b2 z3
  have c3 : w3.cell? ⟨w.heap.size, 0, none⟩ = some (.slice a n cap) := by rw [hb.cell (p := ⟨w.heap.size, 0, none⟩) b2]; exact c2
  have W3 : Hid (Later w w3) := Lib.hid (W2.out.trans hb)
  have S0_3 := Lib.hid (S0.out.later hb)
  skip
  clear hb c2
  go_wp2_with fail
  refine (l_toLayout a n cap L _ (HS.out.later W3.out) hle).mono ?_
  rintro e w4 ⟨gx0, rfl, hgx, hr, hb⟩
  have hb : Later w3 w4 := hb
  have z4 := hb.size
  have b4 : w.heap.size < w4.heap.size := Nat.lt_of_lt_of_le b3 z4
  have c4 : w4.cell? ⟨w.heap.size, 0, none⟩ = some (.slice a n cap) := by rw [hb.cell (p := ⟨w.heap.size, 0, none⟩) b3]; exact c3
  have W4 : Hid (Later w w4) := Lib.hid (W3.out.trans hb)
  have X0 := Lib.hid hr
  have X0l := hr.lt
  clear hb c3 hr
  go_wp2_with fail
  refine (i_EnergyNeeded _ n n L p q _ ((X0.out.later ((Later.refl _).alloc _)).sgs HS.out.1 (by omega) HS.out.2.2.2)).mono ?_
  rintro e w5 ⟨rfl, hb⟩
  have hb : Later (w4.alloc (.cells #[.slice (some ⟨gx0, 0, none⟩) n n] 26)) w5 := hb
  have z5 : w4.heap.size + 1 ≤ w5.heap.size := by have := hb.size; rw [World.size_alloc] at this; exact this
  have b5 : w4.heap.size < w5.heap.size := by omega
  have c5 : w5.cell? ⟨w.heap.size, 0, none⟩ = some (.slice a n cap) := (hb.cell (p := ⟨w.heap.size, 0, none⟩) (by rw [World.size_alloc]; exact Nat.lt_succ_of_lt b4)).trans ((World.cell?_alloc_lt w4 _ ⟨w.heap.size, 0, none⟩ b4).trans c4)
  have d5 : w5.cell? ⟨w4.heap.size, 0, none⟩ = some (.slice (some ⟨gx0, 0, none⟩) n n) := by rw [hb.cell (p := ⟨w4.heap.size, 0, none⟩) (by simp)]; simp
  have W5 : Hid (Later w w5) := Lib.hid ((W4.out.alloc _).trans hb)
  have hbx : Later w4 w5 := ((Later.refl _).alloc _).trans hb
  have X0_5 := Lib.hid (X0.out.later hbx)
  skip
  clear hb hbx c4
  have K5 := Lib.hid (And.intro c5 d5)
  clear c5 d5
  obtain ⟨c5, d5⟩ := K5.out
  go_wp2_with fail
  go_region_held3 (fun w' => w'.cell? ⟨w.heap.size, 0, none⟩ = some (.slice a n cap) ∧ w'.cell? ⟨w4.heap.size, 0, none⟩ = some (.slice (some ⟨gx0, 0, none⟩) n n))
    (exact two_cells K5.out.1 (Nat.lt_trans b4 b5) K5.out.2 b5 (by repeat (first | (with_reducible exact Later.refl _) | (with_reducible exact Hid.out (by assumption)) | (with_reducible refine Later.alloc ?_ _) | (with_reducible refine Later.setCell ?_ (by simp; omega) _) | (with_reducible refine Later.setCell ?_ (by simp) _) | (with_reducible refine Later.drewN ?_ _) | (with_reducible refine Later.drew ?_) | (with_reducible refine Later.trans ?_ (Hid.out (by assumption))))))
    (first
      | (go_at_call 20; refine (l_toLayout a n cap L _ (HS.out.later (by repeat (first | (with_reducible exact Later.refl _) | (with_reducible exact Hid.out (by assumption)) | (with_reducible refine Later.alloc ?_ _) | (with_reducible refine Later.setCell ?_ (by simp; omega) _) | (with_reducible refine Later.setCell ?_ (by simp) _) | (with_reducible refine Later.drewN ?_ _) | (with_reducible refine Later.drew ?_) | (with_reducible refine Later.trans ?_ (Hid.out (by assumption)))))) hle).mono ?_; rintro e wp ⟨gp, rfl, hgp, hrp, hbp⟩; have HP := Lib.hid hbp; have SP := Lib.hid (hrp.sgs HS.out.1 (by omega) HS.out.2.2.2); clear hbp hrp hgp)
      | (go_at_call 23; refine (l_eqLayout_same _ _ n n n n L _ ((X0_5.out.sgs HS.out.1 (by omega) HS.out.2.2.2).later (by repeat (first | (with_reducible exact Later.refl _) | (with_reducible exact Hid.out (by assumption)) | (with_reducible refine Later.alloc ?_ _) | (with_reducible refine Later.setCell ?_ (by simp; omega) _) | (with_reducible refine Later.setCell ?_ (by simp) _) | (with_reducible refine Later.drewN ?_ _) | (with_reducible refine Later.drew ?_) | (with_reducible refine Later.trans ?_ (Hid.out (by assumption)))))) (SP.out.later (by repeat (first | (with_reducible exact Later.refl _) | (with_reducible exact Hid.out (by assumption)) | (with_reducible refine Later.alloc ?_ _) | (with_reducible refine Later.setCell ?_ (by simp; omega) _) | (with_reducible refine Later.setCell ?_ (by simp) _) | (with_reducible refine Later.drewN ?_ _) | (with_reducible refine Later.drew ?_) | (with_reducible refine Later.trans ?_ (Hid.out (by assumption))))))).mono ?_; rintro e wq ⟨rfl, hbq⟩; have HQ := Lib.hid hbq; clear hbq))
  all_goals
    go_wp2_with fail
    go_ret
    exact ⟨rfl, (by repeat (first | (with_reducible exact Later.refl _) | (with_reducible exact Hid.out (by assumption)) | (with_reducible refine Later.alloc ?_ _) | (with_reducible refine Later.setCell ?_ (by simp; omega) _) | (with_reducible refine Later.setCell ?_ (by simp) _) | (with_reducible refine Later.drewN ?_ _) | (with_reducible refine Later.drew ?_) | (with_reducible refine Later.trans ?_ (Hid.out (by assumption)))))⟩

end Go.Proofs.Ytnmlkigpiaekjaa
