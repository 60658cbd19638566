/- The walk of the exact law of chapter 6 on the energies along a run. -/
import Derived.Test.YtnmlkigpiaekjaaEnA
import Derived.Test.YtnmlkigpiaekjaaEnW
import Derived.Test.YtnmlkigpiaekjaaSgC
import Derived.Test.YtnmlkigpiaekjaaSgX
import Derived.Test.YtnmlkigpiaekjaaMarkS
import Derived.Test.YtnmlkigpiaekjaaSgK
namespace Go.Proofs.Ytnmlkigpiaekjaa
open Go.RowKit
set_option maxHeartbeats 4000000
set_option linter.unusedVariables false
set_option linter.unusedSimpArgs false
theorem eaN_le (L : List Sg) (f c a b : Int) : eaN L f c a b ≤ 24 := by
  unfold eaN
  split
  · rename_i h
    have he : enB a b = true := by
      cases h2 : enB a b
      · have := (ea_bad1 (L := L) (f := f) (c := c) h2).1; rw [h] at this; cases this
      · rfl
    have hz : sgE L f c = 0 := by
      by_cases h2 : sgE L f c = 0
      · exact h2
      · have := (ea_bad2 (a := a) (b := b) he h2).1; rw [h] at this; exact absurd this.symm h2
    obtain ⟨_, f', c', rfl, rfl, _, hc⟩ := sgE_ok hz
    simpa using hc
  · omega
theorem own_monoL {W X Y : World} {o : Obj} {v : Value} {N : Nat} {V : List Int} (h : OwnI W X.heap.size v N V) (k : Later (Y.alloc o) X) : OwnI W (Y.heap.size + 1) v N V :=
  OwnW.mono h (by have := k.size; rw [World.size_alloc] at this; exact this)
theorem Held.grownR {l : List (Nat × Nat × Value)} {w0 W W1 : World} {r : Option Nat} (h : Held l w0 W) (gr : W.grownBy W1 r) (hl : ∀ x ∈ l, r ≠ some x.1) (hD : ∀ k, r = some k → w0.heap.size ≤ k) : Held l w0 W1 := by
  refine ⟨fun x hx => ?_, later_kept h.2 gr hD⟩
  obtain ⟨b, c⟩ := h.1 x hx
  exact ⟨Nat.lt_of_lt_of_le b gr.size, gr.cell c (fun e => hl x hx e.symm)⟩
/-- a slice of intervals and a code in two slots -/
def GotL (l : List (Nat × Nat × Value)) (w0 : World) (N : Nat) (V : List Int) (C : Int) (s1 s2 : Value) (w : World) : Prop :=
  ∃ v, s1 = v ∧ s2 = .int .i64 C ∧ OwnI w w0.heap.size v N V ∧ Held l w0 w
set_option maxRecDepth 100000 in
theorem walk_FnExactEnergyAlong (a : Option Addr) (n cap : Nat) (L : List Sg) (p : Int) (q : Int) (x y : Int) (w : World) (hcap : n ≤ cap) (hs : Sgs w a n L) (u1 : (Lit.int .i64 p).wf = true) (u2 : (Lit.int .i64 q).wf = true) (u3 : (Lit.int .i64 x).wf = true) (u4 : (Lit.int .i64 y).wf = true) :
    Calls Try.prog 5 #[.agg #[.slice a n cap], .int .i64 p, .int .i64 q, .agg #[.int .i64 x, .int .i64 y]] w fun e w' => e = .returned (.bool true) ∧ Later w w' := by
  have HS := Lib.hid hs
  have hn := hs.2.1
  have HLn := Lib.hid hs.1
  obtain ⟨v1, v1'⟩ := i64w u1
  obtain ⟨v2, v2'⟩ := i64w u2
  obtain ⟨v3, v3'⟩ := i64w u3
  obtain ⟨v4, v4'⟩ := i64w u4
  clear u1 u2 u3 u4 hs
  by_cases hbig : 1048576 < n
  · have hz := Lib.hid (szI_big hbig)
    go_enter Try.func5, Try.ntmps5
    go_wp2_with (go_at_call 19; refine (l_szLayout a n cap _ hn).mono ?_; rw [hz.out]; rintro e w1 ⟨rfl, hb⟩; have H := Lib.hid hb; clear hb)
    go_ret
    exact ⟨rfl, (by repeat (first | (with_reducible exact Later.refl _) | (with_reducible exact Hid.out (by assumption)) | (with_reducible refine Later.alloc ?_ _) | (with_reducible refine Later.setCell ?_ (by simp; omega) _) | (with_reducible refine Later.setCell ?_ (by simp) _) | (with_reducible refine Later.drewN ?_ _) | (with_reducible refine Later.drew ?_) | (with_reducible refine Later.trans ?_ (Hid.out (by assumption)))))⟩
  have hle : n ≤ 1048576 := by omega
  have hz := Lib.hid (szI_ok hle)
  obtain ⟨N, hN⟩ : ∃ N, N = eaN L p q x y := ⟨_, rfl⟩
  obtain ⟨V, hV⟩ : ∃ V, V = eaV L p q x y := ⟨_, rfl⟩
  obtain ⟨C, hC⟩ : ∃ C, C = eaE L p q x y := ⟨_, rfl⟩
  have hN24 : N ≤ 24 := by rw [hN]; exact eaN_le L p q x y
  have HN := Lib.hid hN; have HV := Lib.hid hV; have HC := Lib.hid hC
  have e0 : (C != C) = false := by simp
  clear hbig hN hV hC
  go_enter Try.func5, Try.ntmps5
  go_upto_region 2 with (fail)
  refine into (Held [(w.heap.size + 1, 0, .int .i64 x), (w.heap.size + 1, 1, .int .i64 y), (w.heap.size, 0, .slice a n cap)] w) (held_box (held_box (held_start w) w.heap.size [.slice a n cap] _ rfl) (w.heap.size + 1) [.int .i64 x, .int .i64 y] _ (by simp)) ?_
  intro W1 h1
  have H1 := Lib.hid h1
  obtain ⟨k1, k2, k3, _⟩ := Held.s3 h1
  clear h1
  go_wp2_with fail
  refine (l_szLayout a n cap _ hn).mono ?_
  rw [hz.out]
  rintro e w2 ⟨rfl, hb⟩
  have H2 := Lib.hid (H1.out.later hb)
  clear hb k1 k2 k3 H1
  go_wp2_with fail
  go_cut [10, 11] (GotL [(w.heap.size + 1, 0, .int .i64 x), (w.heap.size + 1, 1, .int .i64 y), (w.heap.size, 0, .slice a n cap)] w N V C)
  case first =>
    go_region_held3 (fun w' => w'.cell? ⟨w.heap.size + 1, 0, none⟩ = some (.int .i64 x) ∧ w'.cell? ⟨w.heap.size + 1, 1, none⟩ = some (.int .i64 y) ∧ w'.cell? ⟨w.heap.size, 0, none⟩ = some (.slice a n cap) ∧ Held [(w.heap.size + 1, 0, .int .i64 x), (w.heap.size + 1, 1, .int .i64 y), (w.heap.size, 0, .slice a n cap)] w w') (exact Held.s3 (Held.later H2.out (by repeat (first | exact Later.refl _ | refine Later.drew ?_ | refine Later.drewN ?_ _ | refine Later.alloc ?_ _ | refine Later.trans ?_ (Hid.out (by assumption))))))
      (first
        | (go_at_call 20; refine (l_toLayout a n cap L _ (HS.out.later (Held.is (Held.later H2.out (by repeat (first | exact Later.refl _ | refine Later.drew ?_ | refine Later.drewN ?_ _ | refine Later.alloc ?_ _ | refine Later.trans ?_ (Hid.out (by assumption))))))) hle).mono ?_; rintro e wp ⟨gp, rfl, hgp, hrp, hbp⟩; have HP := Lib.hid hbp; have SP := Lib.hid (hrp.sgs HS.out.1 (by omega) HS.out.2.2.2); clear hbp hrp hgp)
        | (go_at_call 21; refine (l_toInterval _ _ _).mono ?_; rintro e wt ⟨rfl, hbt⟩; have HT := Lib.hid hbt; clear hbt)
        | (go_at_call 12; refine (s_EnergyAlong _ n n L p q x y _ (SP.out.later (by repeat (first | exact Later.refl _ | refine Later.drew ?_ | refine Later.drewN ?_ _ | refine Later.alloc ?_ _ | refine Later.trans ?_ (Hid.out (by assumption)))))).mono ?_; rintro e wq ⟨vs, rfl, hos, hbq⟩; have HQ := Lib.hid hbq; have QS : Hid (OwnI wq w.heap.size vs N V) := Lib.hid (by rw [HN.out, HV.out]; exact OwnW.mono hos (Later.size (Held.is (Held.later H2.out (by repeat (first | exact Later.refl _ | refine Later.drew ?_ | refine Later.drewN ?_ _ | refine Later.alloc ?_ _ | refine Later.trans ?_ (Hid.out (by assumption)))))))); clear hbq hos))
    all_goals
      go_wp2_with fail
      go_meet
      exact ⟨vs, rfl, by rw [HC.out], QS.out.later (by repeat (first | exact Later.refl _ | refine Later.drew ?_ | refine Later.drewN ?_ _ | refine Later.alloc ?_ _ | refine Later.trans ?_ (Hid.out (by assumption)))), Held.later H2.out (by repeat (first | exact Later.refl _ | refine Later.drew ?_ | refine Later.drewN ?_ _ | refine Later.alloc ?_ _ | refine Later.trans ?_ (Hid.out (by assumption))))⟩
  case rest =>
    obtain ⟨_, rfl, rfl, hos, h3⟩ := hcut
    obtain ⟨aS, kS, rfl, _, hwS, hbS, _⟩ := hos.wd
    have H3 := Lib.hid h3
    have OS3 := Lib.hid hwS
    have RS : Hid (∀ z, aS = some z → w.heap.size ≤ z.block ∧ z.block < wc.heap.size) := Lib.hid hbS
    obtain ⟨k1, k2, k3, _⟩ := Held.s3 h3
    have hs3 := sg_cell_lt k1
    clear hos h3 hwS hbS
    go_wp2_with fail
    refine (l_toLayout a n cap L _ (HS.out.later H3.out.is) hle).mono ?_
    rintro e w4 ⟨gx0, rfl, hgx, hr, hb⟩
    have h4 := held_box (H3.out.later hb) w4.heap.size [.slice (some ⟨gx0, 0, none⟩) n n] 26 rfl
    have H4 : Hid (Held [(w4.heap.size, 0, .slice (some ⟨gx0, 0, none⟩) n n), (w.heap.size + 1, 0, .int .i64 x), (w.heap.size + 1, 1, .int .i64 y), (w.heap.size, 0, .slice a n cap)] w (w4.alloc (.cells #[.slice (some ⟨gx0, 0, none⟩) n n] 26))) := Lib.hid h4
    have OS4 := Lib.hid (OS3.out.later (hb.alloc (.cells #[.slice (some ⟨gx0, 0, none⟩) n n] 26)))
    have X4 := Lib.hid (hr.later ((Later.refl w4).alloc (.cells #[.slice (some ⟨gx0, 0, none⟩) n n] 26)))
    have X4l := hr.lt
    have hg0 : w.heap.size + 1 < gx0 := Nat.lt_of_lt_of_le hs3 hgx
    have RX : Hid (∀ z, aS = some z → z.block < gx0) := Lib.hid (fun z hz => Nat.lt_of_lt_of_le (RS.out z hz).2 hgx)
    have hz34 := hb.size
    clear hb hr h4 k1 k2 k3
    go_upto_region 7 with (fail)
    go_cut [13, 14] (fun s1 s2 w' => ∃ v, s1 = v ∧ s2 = .int .i64 C ∧ OwnI w' (w4.heap.size + 1) v N V ∧ Later (w4.alloc (.cells #[.slice (some ⟨gx0, 0, none⟩) n n] 26)) w')
    case first =>
      go_region_held3 (fun w' => w'.cell? ⟨w4.heap.size, 0, none⟩ = some (.slice (some ⟨gx0, 0, none⟩) n n) ∧ w'.cell? ⟨w.heap.size + 1, 0, none⟩ = some (.int .i64 x) ∧ w'.cell? ⟨w.heap.size + 1, 1, none⟩ = some (.int .i64 y) ∧ w'.cell? ⟨w.heap.size, 0, none⟩ = some (.slice a n cap) ∧ Held [(w4.heap.size, 0, .slice (some ⟨gx0, 0, none⟩) n n), (w.heap.size + 1, 0, .int .i64 x), (w.heap.size + 1, 1, .int .i64 y), (w.heap.size, 0, .slice a n cap)] w w') (exact Held.s4 (Held.later H4.out (by repeat (first | exact Later.refl _ | refine Later.drew ?_ | refine Later.drewN ?_ _ | refine Later.alloc ?_ _ | refine Later.trans ?_ (Hid.out (by assumption))))))
        (first
          | (go_at_call 21; refine (l_toInterval _ _ _).mono ?_; rintro e wt ⟨rfl, hbt⟩; have HT := Lib.hid hbt; clear hbt)
          | (go_at_call 11; refine (i_EnergyAlong _ n n L p q x y _ ((X4.out.later (by repeat (first | exact Later.refl _ | refine Later.drew ?_ | refine Later.drewN ?_ _ | refine Later.alloc ?_ _ | refine Later.trans ?_ (Hid.out (by assumption))))).sgs HS.out.1 (by omega) HS.out.2.2.2)).mono ?_; rintro e wq ⟨vi, rfl, hoi, hbq⟩; have HQ := Lib.hid hbq; have QI : Hid (OwnI wq (w4.heap.size + 1) vi N V) := Lib.hid (by rw [HN.out, HV.out]; exact own_monoL hoi (show Later (w4.alloc (.cells #[.slice (some ⟨gx0, 0, none⟩) n n] 26)) _ from (by repeat (first | exact Later.refl _ | refine Later.drew ?_ | refine Later.drewN ?_ _ | refine Later.alloc ?_ _ | refine Later.trans ?_ (Hid.out (by assumption)))))); clear hbq hoi))
      all_goals
        go_wp2_with fail
        go_meet
        exact ⟨vi, rfl, by rw [HC.out], QI.out.later (by repeat (first | exact Later.refl _ | refine Later.drew ?_ | refine Later.drewN ?_ _ | refine Later.alloc ?_ _ | refine Later.trans ?_ (Hid.out (by assumption)))), (by repeat (first | exact Later.refl _ | refine Later.drew ?_ | refine Later.drewN ?_ _ | refine Later.alloc ?_ _ | refine Later.trans ?_ (Hid.out (by assumption))))⟩
    case rest =>
      obtain ⟨_, rfl, rfl, hoi, hlw⟩ := hcut
      have H5 := Lib.hid (H4.out.later hlw)
      have OS5 := Lib.hid (OS4.out.later hlw)
      have X5 := Lib.hid (X4.out.later hlw)
      have hz5 := hlw.size
      rw [World.size_alloc] at hz5
      have OI5 := Lib.hid hoi
      obtain ⟨ai, ki, rfl, _, hwi, hbi, _⟩ := hoi.wd
      have RI : Hid (∀ z, ai = some z → w4.heap.size + 1 ≤ z.block ∧ z.block < wc.heap.size) := Lib.hid hbi
      have WI5 := Lib.hid hwi
      obtain ⟨k0, k1, k2, k3, _⟩ := Held.s4 H5.out
      clear hoi hlw hwi hbi
      go_wp2_with fail
      refine (l_eqIntervalS_same ai aS N ki N kS V _ WI5.out OS5.out).mono ?_
      rintro e w6 ⟨rfl, hb⟩
      have H6 := Lib.hid (H5.out.later hb)
      have OS6 := Lib.hid (OS5.out.later hb)
      have X6 := Lib.hid (X5.out.later hb)
      have OI6 := Lib.hid (OI5.out.later hb)
      have WI6 := Lib.hid (WI5.out.later hb)
      have hz56 := hb.size
      clear hb k0 k1 k2 k3
      go_upto_region 10 with (fail)
      go_cut [59] (fun s1 w' => s1 = .bool false ∧ Later w6 w')
      case first =>
        go_region_held3 (fun w' => w'.cell? ⟨w4.heap.size, 0, none⟩ = some (.slice (some ⟨gx0, 0, none⟩) n n) ∧ w'.cell? ⟨w.heap.size + 1, 0, none⟩ = some (.int .i64 x) ∧ w'.cell? ⟨w.heap.size + 1, 1, none⟩ = some (.int .i64 y) ∧ w'.cell? ⟨w.heap.size, 0, none⟩ = some (.slice a n cap) ∧ Held [(w4.heap.size, 0, .slice (some ⟨gx0, 0, none⟩) n n), (w.heap.size + 1, 0, .int .i64 x), (w.heap.size + 1, 1, .int .i64 y), (w.heap.size, 0, .slice a n cap)] w w') (exact Held.s4 (Held.later H6.out (by repeat (first | exact Later.refl _ | refine Later.drew ?_ | refine Later.drewN ?_ _ | refine Later.alloc ?_ _ | refine Later.trans ?_ (Hid.out (by assumption))))))
          (first
            | (go_at_call 20; refine (l_toLayout a n cap L _ (HS.out.later (Held.is (Held.later H6.out (by repeat (first | exact Later.refl _ | refine Later.drew ?_ | refine Later.drewN ?_ _ | refine Later.alloc ?_ _ | refine Later.trans ?_ (Hid.out (by assumption))))))) hle).mono ?_; rintro e wp ⟨gp, rfl, hgp, hrp, hbp⟩; have HP := Lib.hid hbp; have SP := Lib.hid (hrp.sgs HS.out.1 (by omega) HS.out.2.2.2); clear hbp hrp hgp)
            | (go_at_call 23; refine (l_eqLayout_same _ _ n n n n L _ ((X6.out.sgs HS.out.1 (by omega) HS.out.2.2.2).later (by repeat (first | exact Later.refl _ | refine Later.drew ?_ | refine Later.drewN ?_ _ | refine Later.alloc ?_ _ | refine Later.trans ?_ (Hid.out (by assumption))))) (SP.out.later (by repeat (first | exact Later.refl _ | refine Later.drew ?_ | refine Later.drewN ?_ _ | refine Later.alloc ?_ _ | refine Later.trans ?_ (Hid.out (by assumption)))))).mono ?_; rintro e wq ⟨rfl, hbq⟩; have HQ := Lib.hid hbq; clear hbq))
        all_goals
          go_wp2_with fail
          go_meet
          exact ⟨rfl, (by repeat (first | exact Later.refl _ | refine Later.drew ?_ | refine Later.drewN ?_ _ | refine Later.alloc ?_ _ | refine Later.trans ?_ (Hid.out (by assumption))))⟩
      case rest =>
        obtain ⟨rfl, hlw⟩ := hcut
        have H7 : Hid (Held [(w.heap.size + 1, 0, .int .i64 x), (w.heap.size + 1, 1, .int .i64 y), (w.heap.size, 0, .slice a n cap)] w wc) := Lib.hid (Held.later ⟨fun z hz => H6.out.1 z (List.mem_cons_of_mem _ hz), H6.out.2⟩ hlw)
        have OS7 := Lib.hid (OS6.out.later hlw)
        have X7 := Lib.hid (X6.out.later hlw)
        have OI7 := Lib.hid (OI6.out.later hlw)
        have WI7 := Lib.hid (WI6.out.later hlw)
        obtain ⟨k0, _⟩ := Held.s4 (H6.out.later hlw)
        clear hlw
        go_wp2_with fail
        refine (l_markLayout gx0 n n (flt L) _ X7.out hle).mono ?_
        rintro e w8 ⟨rfl, hr, hg⟩
        have hw0 := H7.out.is.size
        have H8 := Lib.hid (H7.out.grownR hg (by intro z hz e; have := Option.some.inj e; simp at hz; rcases hz with rfl | rfl | rfl <;> simp at this <;> omega) (fun k e => by have := Option.some.inj e; omega))
        have OS8 := Lib.hid (OS7.out.kept hg (fun z hz e => by have h1 := RX.out z hz; have := Option.some.inj e; omega))
        have OI8 := Lib.hid (OI7.out.kept hg (fun k hk e => by have h1 := (OI7.out.lt k hk).1; have := Option.some.inj e; omega))
        have WI8 := Lib.hid (WI7.out.kept hg (fun z hz e => by have h1 := (RI.out z hz).1; have := Option.some.inj e; omega))
        clear hr hg k0
        go_wp2_with fail
        refine (l_eqIntervalS_same ai aS N ki N kS V _ WI8.out OS8.out).mono ?_
        rintro e w9 ⟨rfl, hb⟩
        have H9 := Lib.hid (H8.out.later hb)
        have OS9 := Lib.hid (OS8.out.later hb)
        have OI9 := Lib.hid (OI8.out.later hb)
        clear hb
        go_wp2_with fail
        refine (l_markIntervalS _ (w4.heap.size + 1) N V _ OI9.out (by omega)).mono ?_
        rintro e w10 ⟨rfl, ho, hg⟩
        have NI : ∀ k, (Value.slice ai N ki).ownBlock = some k → w4.heap.size + 1 ≤ k := fun k e => (OI9.out.lt k e).1
        have H10 := Lib.hid (H9.out.grownR hg (by intro z hz e; have := NI _ e; simp at hz; rcases hz with rfl | rfl | rfl <;> simp at this <;> omega) (fun k e => by have := NI _ e; omega))
        have OS10 := Lib.hid (OS9.out.kept hg (fun z hz e => by have h1 := RX.out z hz; have := NI _ e; omega))
        have MI := Lib.hid ho
        clear ho hg NI
        go_wp2_with fail
        refine (l_heldIntervalS _ _ N V _ MI.out (by omega)).mono ?_
        rintro e w' ⟨rfl, rfl⟩
        have hmm : (1 + 2 * (N : Int) != 1 + 2 * (N : Int)) = false := by simp
        obtain ⟨k1, k2, k3, _⟩ := Held.s3 H10.out
        go_upto_region 24 with (fail)
        go_cut [18, 19] (fun s1 s2 w' => ∃ v, s1 = v ∧ s2 = .int .i64 C ∧ OwnI w' w.heap.size v N V ∧ Later w10 w')
        case first =>
          go_region_held3 (fun w' => w'.cell? ⟨w.heap.size + 1, 0, none⟩ = some (.int .i64 x) ∧ w'.cell? ⟨w.heap.size + 1, 1, none⟩ = some (.int .i64 y) ∧ w'.cell? ⟨w.heap.size, 0, none⟩ = some (.slice a n cap) ∧ Held [(w.heap.size + 1, 0, .int .i64 x), (w.heap.size + 1, 1, .int .i64 y), (w.heap.size, 0, .slice a n cap)] w w') (exact Held.s3 (Held.later H10.out (by repeat (first | exact Later.refl _ | refine Later.drew ?_ | refine Later.drewN ?_ _ | refine Later.alloc ?_ _ | refine Later.trans ?_ (Hid.out (by assumption))))))
            (first
              | (go_at_call 20; refine (l_toLayout a n cap L _ (HS.out.later (Held.is (Held.later H10.out (by repeat (first | exact Later.refl _ | refine Later.drew ?_ | refine Later.drewN ?_ _ | refine Later.alloc ?_ _ | refine Later.trans ?_ (Hid.out (by assumption))))))) hle).mono ?_; rintro e wp ⟨gp, rfl, hgp, hrp, hbp⟩; have HP := Lib.hid hbp; have SP := Lib.hid (hrp.sgs HS.out.1 (by omega) HS.out.2.2.2); clear hbp hrp hgp)
              | (go_at_call 21; refine (l_toInterval _ _ _).mono ?_; rintro e wt ⟨rfl, hbt⟩; have HT := Lib.hid hbt; clear hbt)
              | (go_at_call 11; refine (i_EnergyAlong _ n n L p q x y _ (SP.out.later (by repeat (first | exact Later.refl _ | refine Later.drew ?_ | refine Later.drewN ?_ _ | refine Later.alloc ?_ _ | refine Later.trans ?_ (Hid.out (by assumption)))))).mono ?_; rintro e wq ⟨vs, rfl, hos, hbq⟩; have HQ := Lib.hid hbq; have QS : Hid (OwnI wq w.heap.size vs N V) := Lib.hid (by rw [HN.out, HV.out]; exact OwnW.mono hos (Later.size (Held.is (Held.later H10.out (by repeat (first | exact Later.refl _ | refine Later.drew ?_ | refine Later.drewN ?_ _ | refine Later.alloc ?_ _ | refine Later.trans ?_ (Hid.out (by assumption)))))))); clear hbq hos))
          all_goals
            go_wp2_with fail
            go_meet
            exact ⟨vs, rfl, by rw [HC.out], QS.out.later (by repeat (first | exact Later.refl _ | refine Later.drew ?_ | refine Later.drewN ?_ _ | refine Later.alloc ?_ _ | refine Later.trans ?_ (Hid.out (by assumption)))), (by repeat (first | exact Later.refl _ | refine Later.drew ?_ | refine Later.drewN ?_ _ | refine Later.alloc ?_ _ | refine Later.trans ?_ (Hid.out (by assumption))))⟩
        case rest =>
          obtain ⟨_, rfl, rfl, hoz, hlw⟩ := hcut
          obtain ⟨az, kz, rfl, _, hwz, _, _⟩ := hoz.wd
          have OS11 := Lib.hid (OS10.out.later hlw)
          have MI11 := Lib.hid (MI.out.later hlw)
          have B11 := Lib.hid (H10.out.is.trans hlw)
          have WZ := Lib.hid hwz
          clear hoz hlw hwz k1 k2 k3
          go_wp2_with fail
          refine (l_eqIntervalS_same az aS N kz N kS V _ WZ.out OS11.out).mono ?_
          rintro e w12 ⟨rfl, hb⟩
          have MI12 := Lib.hid (MI11.out.later hb)
          have B12 := Lib.hid (B11.out.trans hb)
          clear hb
          go_wp2_with fail
          refine (l_heldIntervalS _ _ N V _ MI12.out (by omega)).mono ?_
          rintro e w' ⟨rfl, rfl⟩
          go_wp2_with fail
          go_ret
          exact ⟨rfl, B12.out⟩
end Go.Proofs.Ytnmlkigpiaekjaa
