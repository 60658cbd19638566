/- Contracts of chapter 6: the energy that is needed, of the program. -/
import Derived.Test.YtnmlkigpiaekjaaEnA
namespace Go.Proofs.Ytnmlkigpiaekjaa
open Go.RowKit
set_option maxHeartbeats 4000000
set_option linter.unusedVariables false
set_option linter.unusedSimpArgs false
/-- the greatest of m and the first k of a list -/
def mxK (m : Int) (l : List Int) : Nat → Int
  | 0 => m
  | k + 1 => max (mxK m l k) (gx l k)
theorem i_greatest (m : Int) (a : Option Addr) (n cap : Nat) (l : List Int) (w : World) (hs : Sl w a n l) :
    Calls Try.prog 49 #[.int .i64 m, .slice a n cap] w fun e w' => e = .returned (.int .i64 (mxK m l n)) ∧ Later w w' := by
  have HS := Lib.hid hs
  have hn := hs.2.1
  clear hs
  go_enter Try.func49, Try.ntmps49
  go_wp2_with fail
  go_loop [5, 11] (fun t i => ∃ k : Nat, k ≤ n ∧ i = .int .i64 k ∧ t = .int .i64 (mxK m l k)) (fun _ i => n - (intOf i).toNat)
  case atStart => exact ⟨0, by omega, rfl, rfl⟩
  case round =>
    obtain ⟨k, hk, rfl, rfl⟩ := hrel
    by_cases hlt : k < n
    · obtain ⟨b, off, rfl, hc⟩ := HS.out.at k hlt
      have HM : Hid (mxK m l (k + 1) = max (mxK m l k) (gx l k)) := Lib.hid rfl
      go_wp2_with fail
      go_round
      case rel =>
        refine ⟨k + 1, by omega, by go_num, ?_⟩
        rw [HM.out]
        congr 1
        split <;> omega
      case measure => simp [intOf]; omega
    · obtain rfl : k = n := by omega
      go_wp2_with fail
      go_ret
      exact ⟨rfl, Later.refl _⟩
/-- what is lacked behind each of the first k segments -/
def lackL (R : List Sg) (k : Nat) : List Int := (List.range k).map fun j => -clL R (j + 1)
theorem lackL_len (R : List Sg) (k : Nat) : (lackL R k).length = k := by simp [lackL]
theorem lackL_succ (R : List Sg) (k : Nat) : lackL R (k + 1) = lackL R k ++ [-clL R (k + 1)] := by
  unfold lackL; rw [List.range_succ, List.map_append]; rfl
theorem lackL_gx (R : List Sg) (n j : Nat) (h : j < n) : gx (lackL R n) j = -clL R (j + 1) := by
  rw [gx_of _ _ (by rw [lackL_len]; exact h)]; simp [lackL]
theorem mxK_lack (R : List Sg) (n k : Nat) (h : k ≤ n) : mxK 0 (lackL R n) k = ndN R k := by
  induction k with
  | zero => rfl
  | succ k ih => rw [ndN_succ, ← ih (by omega), ← lackL_gx R n k (by omega)]; rfl
theorem own_none0 (w : World) (base : Nat) : Own w base (.slice none 0 0) [] := ⟨⟨rfl, .inl ⟨rfl, rfl⟩⟩, fun x hx => by simp at hx⟩
theorem own_lat {w w' : World} {base : Nat} {v : Value} {l : List Int} (h : Own w base v l) (k : Later w w') : Own w' base v l :=
  h.kept (row := none) ⟨k.os, k.tape, k.output, k.size, fun i hi _ => k.block i hi⟩ (fun _ e => by cases e)
set_option maxRecDepth 100000 in
theorem i_EnergyNeeded (s : Option Addr) (n cap : Nat) (L : List Sg) (f c : Int) (w : World) (hs : Sgs w s n L) :
    Calls Try.prog 17 #[.agg #[.slice s n cap], .int .i64 f, .int .i64 c] w fun e w' => e = .returned (.tuple #[.int .i64 (enV L f c), .int .i64 (enE L f c)]) ∧ Later w w' := by
  have HS := Lib.hid hs
  have HL := Lib.hid hs.1
  clear hs
  by_cases hz : sgE L f c = 0
  · obtain ⟨hv, f', c', rfl, rfl, hf, hc⟩ := sgE_ok hz
    obtain ⟨R, hR⟩ : ∃ R, R = runS L f' c' := ⟨_, rfl⟩
    have hRl : R.length = c' := by rw [hR, runS_len]
    have hok : okB R R.length = true := by rw [hR]; exact runS_okB L f' c' ((layB_iff L).1 hv).2.2.1 (by omega)
    have HSV : Hid (sgV L (f' : Int) (c' : Int) = R) := Lib.hid (by unfold sgV; rw [if_pos hz, hR]; simp)
    have HE := Lib.hid hz
    have HFE : Hid (enE L (f' : Int) (c' : Int) = if ndN R c' ≤ 10000000000 then 0 else 3) := Lib.hid (by unfold enE; rw [if_pos hz, hR]; simp)
    have HFV : Hid (enV L (f' : Int) (c' : Int) = if ndN R c' ≤ 10000000000 then ndN R c' else 0) := Lib.hid (by unfold enV; rw [HFE.out, hR]; split <;> simp)
    have HND := Lib.hid (ndN_bd R hok c' (by omega))
    have HRL := Lib.hid hRl; have HOK := Lib.hid hok
    clear hR hz hok hRl hv hf
    go_enter Try.func17, Try.ntmps17
    go_wp2_with fail
    refine (i_segmentsAlong s n cap L f' c' _ (HS.out.later (by repeat (first | (with_reducible exact Later.refl _) | (with_reducible exact Hid.out (by assumption)) | (with_reducible refine Later.alloc ?_ _) | (with_reducible refine Later.setCell ?_ (by simp; omega) _) | (with_reducible refine Later.setCell ?_ (by simp) _) | (with_reducible refine Later.drewN ?_ _) | (with_reducible refine Later.drew ?_) | (with_reducible refine Later.trans ?_ (Hid.out (by assumption))))))).mono ?_
    rw [HE.out, HSV.out]
    rintro e w2 ⟨v, rfl, ho, hb⟩
    obtain ⟨ra, rc, rfl, hrc, hrs, hrb⟩ := ho.sgs
    have hrb2 : ∀ x, ra = some x → x.block < w2.heap.size := fun x e => by subst e; exact (ho.lt x.block rfl).2
    rw [HRL.out] at hrs
    generalize hq : R.length = q
    obtain rfl : q = c' := by rw [← hq]; exact HRL.out
    clear hq
    have RS2 := Lib.hid hrs; have RB := Lib.hid hrb2
    have H2 : Hid (Later w w2) := Lib.hid (Later.trans (by repeat (first | (with_reducible exact Later.refl _) | (with_reducible exact Hid.out (by assumption)) | (with_reducible refine Later.alloc ?_ _) | (with_reducible refine Later.setCell ?_ (by simp; omega) _) | (with_reducible refine Later.setCell ?_ (by simp) _) | (with_reducible refine Later.drewN ?_ _) | (with_reducible refine Later.drew ?_) | (with_reducible refine Later.trans ?_ (Hid.out (by assumption))))) hb)
    clear hb ho hrs hrb hrb2 hrc
    go_wp2_with fail
    refine (i_coasting 0 0 _).mono ?_
    rintro e w3 ⟨g, rfl, hg, hF, hb⟩
    have H3 : Hid (Later w w3) := Lib.hid (Later.trans (by repeat (first | (with_reducible exact Later.refl _) | (with_reducible exact Hid.out (by assumption)) | (with_reducible refine Later.alloc ?_ _) | (with_reducible refine Later.setCell ?_ (by simp; omega) _) | (with_reducible refine Later.setCell ?_ (by simp) _) | (with_reducible refine Later.drewN ?_ _) | (with_reducible refine Later.drew ?_) | (with_reducible refine Later.trans ?_ (Hid.out (by assumption))))) hb)
    have F3 := Lib.hid hF
    have RS3 := Lib.hid (RS2.out.later hb)
    have NG : Hid (∀ x, ra = some x → (some g : Option Nat) ≠ some x.block) := Lib.hid (fun x e h => by have := RB.out x e; have := Option.some.inj h; omega)
    have hgw : w.heap.size ≤ g := by have := H2.out.size; omega
    have HG2 := Lib.hid hg
    clear hb hF hg
    unfold sumF
    go_wp2_with fail
    go_loopw [11, 29] (fun v i wr => ∃ k : Nat, k ≤ q ∧ i = .int .i64 k ∧ Own wr (g + 1) v (lackL R k) ∧ Fr g [.int .i64 (clL R k), .int .i64 (clH R k)] wr ∧ Sgs wr ra q R ∧ Later w wr) (fun _ i _ => q - (intOf i).toNat)
    case atStart => exact ⟨0, by omega, rfl, own_none0 _ _, by rw [clL_0, clH_0]; exact F3.out, RS3.out, H3.out⟩
    case round =>
      clear RS2 RS3 F3 H3
      obtain ⟨k, hk, rfl, ho, hF, hrs, hlw⟩ := hrel
      have HO := Lib.hid ho; have HF := Lib.hid hF; have HRS := Lib.hid hrs; have HW2 := Lib.hid hlw
      have hlt0 := hF.lt
      clear ho hF hrs hlw
      by_cases hlt : k < q
      · have hseg : sgB (sx R k) = true := okB_at R R.length k (Nat.le_refl _) (by rw [HRL.out]; exact hlt) HOK.out
        obtain ⟨d1, d2, d3⟩ := cl_bd R HOK.out k (by rw [HRL.out]; exact hk)
        obtain ⟨d4, d5, d6⟩ := cl_bd R HOK.out (k + 1) (by rw [HRL.out]; exact hlt)
        obtain ⟨x, hx⟩ : ∃ x, x = clL R (k + 1) := ⟨_, rfl⟩
        obtain ⟨y, hy⟩ : ∃ y, y = clH R (k + 1) := ⟨_, rfl⟩
        have q1 : clL R k + chL (sx R k) = x := by rw [hx, clL_succ R k (by rw [HRL.out]; exact hlt)]
        have q2 : clH R k + chH (sx R k) = y := by rw [hy, clH_succ R k (by rw [HRL.out]; exact hlt)]
        have hx0 : -300000000000 ≤ x := by omega
        have hx2 : x ≤ 300000000000 := by omega
        have HX := Lib.hid hx; have HY := Lib.hid hy
        have b1 : -1000000000000 ≤ clL R k := by omega
        have b2 : clL R k ≤ 1000000000000 := by omega
        have b3 : -1000000000000 ≤ clH R k := by omega
        have b4 : clH R k ≤ 1000000000000 := by omega
        clear d1 d2 d3 d4 d5 d6 hx hy
        obtain ⟨bb, off, rfl, hb1, hc7⟩ := HRS.out.at k hlt
        obtain ⟨c0, c1, c2, c3, c4, c5, c6⟩ := hc7
        go_wp2_with fail
        refine (i_coasting1 (sx R k) g (clL R k) (clH R k) _ hseg (fr_later HF.out (by repeat (first | (with_reducible exact Later.refl _) | (with_reducible exact Hid.out (by assumption)) | (with_reducible refine Later.alloc ?_ _) | (with_reducible refine Later.setCell ?_ (by simp; omega) _) | (with_reducible refine Later.setCell ?_ (by simp) _) | (with_reducible refine Later.drewN ?_ _) | (with_reducible refine Later.drew ?_) | (with_reducible refine Later.trans ?_ (Hid.out (by assumption)))))) b1 b2 b3 b4).mono ?_
        rw [q1, q2]
        rintro e w5 ⟨rfl, hF5, hg5⟩
        have F5 := Lib.hid hF5
        have O5 := Lib.hid ((own_lat HO.out (show Later wr _ from (by repeat (first | (with_reducible exact Later.refl _) | (with_reducible exact Hid.out (by assumption)) | (with_reducible refine Later.alloc ?_ _) | (with_reducible refine Later.setCell ?_ (by simp; omega) _) | (with_reducible refine Later.setCell ?_ (by simp) _) | (with_reducible refine Later.drewN ?_ _) | (with_reducible refine Later.drew ?_) | (with_reducible refine Later.trans ?_ (Hid.out (by assumption))))))).kept hg5 (fun j e => by cases e; omega))
        have S5 := Lib.hid (sgs_kept (HRS.out.later (show Later wr _ from (by repeat (first | (with_reducible exact Later.refl _) | (with_reducible exact Hid.out (by assumption)) | (with_reducible refine Later.alloc ?_ _) | (with_reducible refine Later.setCell ?_ (by simp; omega) _) | (with_reducible refine Later.setCell ?_ (by simp) _) | (with_reducible refine Later.drewN ?_ _) | (with_reducible refine Later.drew ?_) | (with_reducible refine Later.trans ?_ (Hid.out (by assumption))))))) hg5 NG.out)
        have W5 : Hid (Later w w5) := Lib.hid (later_kept (show Later w _ from (by repeat (first | (with_reducible exact Later.refl _) | (with_reducible exact Hid.out (by assumption)) | (with_reducible refine Later.alloc ?_ _) | (with_reducible refine Later.setCell ?_ (by simp; omega) _) | (with_reducible refine Later.setCell ?_ (by simp) _) | (with_reducible refine Later.drewN ?_ _) | (with_reducible refine Later.drew ?_) | (with_reducible refine Later.trans ?_ (Hid.out (by assumption)))))) hg5 (fun j e => by cases e; exact hgw))
        have hg5s := hF5.lt
        clear hF5 hg5 c0 c1 c2 c3 c4 c5 c6 q1 q2 HO HF HRS
        have hfd : ∀ w : World, (Instr.field 28 (.agg #[.int .i64 x, .int .i64 y]) 0).run Try.prog w = .ok (.int .i64 x) w := fun _ => by kernel_rfl
        go_wp2_with (at_builtin; go_must (refine app1 rfl _ _ rfl (g + 1) _ _ _ (lackL R k) (-x) O5.out rfl rfl ⟨by omega, by omega⟩ (by rw [lackL_len]; omega) (by omega) ?_; intro v' w7 ho hg))
        have O7 := Lib.hid ho
        have F7 := Lib.hid (fr_kept F5.out hg (fun e => by have := (O5.out.lt g e).1; omega))
        have S7 := Lib.hid (sgs_kept S5.out hg (fun z e h => by have h1 := (O5.out.lt z.block h).1; have h2 := RB.out z e; have h3 := HG2.out; omega))
        have W7 : Hid (Later w w7) := Lib.hid (later_kept W5.out hg (fun j e => by have := (O5.out.lt j e).1; omega))
        clear ho hg
        go_roundw
        case rel => exact ⟨k + 1, by omega, by go_num, by rw [lackL_succ, ← HX.out]; exact O7.out, by rw [← HX.out, ← HY.out]; exact F7.out, S7.out, W7.out⟩
        case measure => simp [intOf]; omega
      · obtain rfl : k = q := by omega
        obtain ⟨sa, sc, hv, hsl, _⟩ := HO.out.sl
        rw [lackL_len] at hv hsl
        subst hv
        have HM : Hid (mxK 0 (lackL R k) k = ndN R k) := Lib.hid (mxK_lack R k k (Nat.le_refl _))
        go_wp2_with fail
        refine (i_greatest 0 sa k sc (lackL R k) _ hsl).mono ?_
        rw [HM.out]
        rintro e w6 ⟨rfl, hb6⟩
        have W6 : Hid (Later w w6) := Lib.hid (HW2.out.trans hb6)
        clear hb6
        by_cases hbig : ndN R k ≤ 10000000000
        · have E1 : Hid (enE L (f' : Int) (k : Int) = 0) := Lib.hid (by rw [HFE.out, if_pos hbig])
          have E2 : Hid (enV L (f' : Int) (k : Int) = ndN R k) := Lib.hid (by rw [HFV.out, if_pos hbig])
          go_wp2_with fail
          go_ret2
          exact ⟨ret_2i E2.out.symm E1.out.symm, W6.out⟩
        · have E1 : Hid (enE L (f' : Int) (k : Int) = 3) := Lib.hid (by rw [HFE.out, if_neg hbig])
          have E2 : Hid (enV L (f' : Int) (k : Int) = 0) := Lib.hid (by rw [HFV.out, if_neg hbig])
          go_wp2_with fail
          go_ret2
          exact ⟨ret_2i E2.out.symm E1.out.symm, W6.out⟩
  · have E1 : Hid (enE L f c = sgE L f c) := Lib.hid (by unfold enE; rw [if_neg hz])
    have E2 : Hid (enV L f c = 0) := Lib.hid (by unfold enV; rw [E1.out, if_neg hz])
    have HZ : (sgE L f c != 0) = true := by simpa using hz
    clear hz
    go_enter Try.func17, Try.ntmps17
    go_wp2_with fail
    refine (i_segmentsAlong s n cap L f c _ (HS.out.later (by repeat (first | (with_reducible exact Later.refl _) | (with_reducible exact Hid.out (by assumption)) | (with_reducible refine Later.alloc ?_ _) | (with_reducible refine Later.setCell ?_ (by simp; omega) _) | (with_reducible refine Later.setCell ?_ (by simp) _) | (with_reducible refine Later.drewN ?_ _) | (with_reducible refine Later.drew ?_) | (with_reducible refine Later.trans ?_ (Hid.out (by assumption))))))).mono ?_
    rintro e w2 ⟨v, rfl, ho, hb⟩
    have H2 : Hid (Later w w2) := Lib.hid (Later.trans (by repeat (first | (with_reducible exact Later.refl _) | (with_reducible exact Hid.out (by assumption)) | (with_reducible refine Later.alloc ?_ _) | (with_reducible refine Later.setCell ?_ (by simp; omega) _) | (with_reducible refine Later.setCell ?_ (by simp) _) | (with_reducible refine Later.drewN ?_ _) | (with_reducible refine Later.drew ?_) | (with_reducible refine Later.trans ?_ (Hid.out (by assumption))))) hb)
    clear hb ho
    go_wp2_with fail
    go_ret2
    exact ⟨ret_2i E2.out.symm E1.out.symm, H2.out⟩
end Go.Proofs.Ytnmlkigpiaekjaa
