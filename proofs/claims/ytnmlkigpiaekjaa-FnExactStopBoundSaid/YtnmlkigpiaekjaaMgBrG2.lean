/- Contracts of chapter 7: the bound of a stop, of the model. | The walk of the exact law of chapter 7 on the bound of a stop. -/
import Derived.Test.YtnmlkigpiaekjaaMgBrG1
import Derived.Deep.RegionWith
import Derived.Test.YtnmlkigpiaekjaaMarkS
namespace Go.Proofs.Ytnmlkigpiaekjaa
open Go.RowKit
set_option maxHeartbeats 4000000
set_option linter.unusedVariables false
set_option linter.unusedSimpArgs false
/-- the boxes of the walk: the layout's, the energy's -/
structure SbS (w : World) (a : Option Addr) (n cap : Nat) (L : List Sg) (x y : Int) (W : World) : Prop where
  l : Fr w.heap.size [.slice a n cap] W
  e : Fr (w.heap.size + 1) [.int .i64 x, .int .i64 y] W
  sg : Sgs W a n L
  lt : Later w W
theorem SbS.later {w : World} {a : Option Addr} {n cap : Nat} {L : List Sg} {x y : Int} {W W' : World} (h : SbS w a n cap L x y W) (k : Later W W') : SbS w a n cap L x y W' :=
  ⟨fr_later h.l k, fr_later h.e k, h.sg.later k, h.lt.trans k⟩
theorem SbS.setE {w : World} {a : Option Addr} {n cap : Nat} {L : List Sg} {x y : Int} {W : World} (h : SbS w a n cap L x y W) (ha : ∀ z, a = some z → z.block < w.heap.size) (x' y' : Int) :
    SbS w a n cap L x' y' ((W.setCell ⟨w.heap.size + 1, 0, none⟩ (.int .i64 x')).setCell ⟨w.heap.size + 1, 1, none⟩ (.int .i64 y')) := by
  have ne : ∀ m, m ≠ w.heap.size + 1 → (some (w.heap.size + 1) : Option Nat) ≠ some m := fun m hm e => hm (Option.some.inj e).symm
  have k : W.grownBy ((W.setCell ⟨w.heap.size + 1, 0, none⟩ (.int .i64 x')).setCell ⟨w.heap.size + 1, 1, none⟩ (.int .i64 y')) (some (w.heap.size + 1)) := grown_set1 (grown_set W (w.heap.size + 1) 0 _) 1 _
  exact ⟨fr_kept h.l k (ne _ (by omega)), fr_set (fr_set h.e 0 _) 1 _, sgs_kept h.sg k (fun z e => ne _ (by have := ha z e; omega)), later_kept h.lt k (fun j e => by cases e; omega)⟩
set_option maxRecDepth 100000 in
theorem s_StopBound (a : Option Addr) (n cap : Nat) (L : List Sg) (A : Option Addr) (m capF : Nat) (F : List Int) (p x y : Int) (w : World) (hs : Sgs w a n L) (hf : Sl w A m F) (hp : -9223372036854775808 ≤ p) (hp2 : p ≤ 9223372036854775807) :
    Calls Try.prog 27 #[.agg #[.slice a n cap], .slice A m capF, .int .i64 p, .agg #[.int .i64 x, .int .i64 y]] w fun e w' => e = .returned (.tuple #[.int .i64 (sbV L F p x y), .int .i64 (sbE L F p x y)]) ∧ Later w w' := by
  have HM := fun w h1 h2 => s_MayEnter a n cap L A m capF F p x y w h1 h2 hp hp2
  have HS := Lib.hid hs; have HF := Lib.hid hf
  by_cases h0 : meE L F p x y = 0
  · cases hb0 : meB L F p x y
    · have e1 : Hid (sbE L F p x y = 5) := Lib.hid (by unfold sbE; rw [if_pos h0, hb0]; rfl)
      have e2 : Hid (sbV L F p x y = 0) := Lib.hid (by unfold sbV; rw [e1.out]; rfl)
      rw [h0, hb0] at HM
      clear hs hf h0 hb0 hp hp2
      go_enter Try.func27, Try.ntmps27
      go_wp2_with (go_at_call 55; refine (HM _ (HS.out.later (by repeat (first | (with_reducible exact Later.refl _) | (with_reducible exact Hid.out (by assumption)) | (with_reducible refine Later.alloc ?_ _) | (with_reducible refine Later.setCell ?_ (by simp; omega) _) | (with_reducible refine Later.setCell ?_ (by simp) _) | (with_reducible refine Later.drewN ?_ _) | (with_reducible refine Later.drew ?_) | (with_reducible refine Later.trans ?_ (Hid.out (by assumption)))))) (HF.out.later (by repeat (first | (with_reducible exact Later.refl _) | (with_reducible exact Hid.out (by assumption)) | (with_reducible refine Later.alloc ?_ _) | (with_reducible refine Later.setCell ?_ (by simp; omega) _) | (with_reducible refine Later.setCell ?_ (by simp) _) | (with_reducible refine Later.drewN ?_ _) | (with_reducible refine Later.drew ?_) | (with_reducible refine Later.trans ?_ (Hid.out (by assumption))))))).mono ?_; rintro e w1 ⟨rfl, hb⟩; obtain ⟨H, hcc, hff, hzz⟩ := later_facts hb; clear hb; (try simp at hzz))
      go_ret2
      exact ⟨ret_2i e2.out.symm e1.out.symm, (by repeat (first | (with_reducible exact Later.refl _) | (with_reducible exact Hid.out (by assumption)) | (with_reducible refine Later.alloc ?_ _) | (with_reducible refine Later.setCell ?_ (by simp; omega) _) | (with_reducible refine Later.setCell ?_ (by simp) _) | (with_reducible refine Later.drewN ?_ _) | (with_reducible refine Later.drew ?_) | (with_reducible refine Later.trans ?_ (Hid.out (by assumption)))))⟩
    · obtain ⟨he, hf0⟩ := meE_in h0
      have e1 : Hid (sbE L F p x y = 0) := Lib.hid (by unfold sbE; rw [if_pos h0, hb0]; rfl)
      rw [h0, hb0] at HM
      obtain ⟨b, rfl, hbl, hv, hk, hsec⟩ := isNo_cases hf0
      have hbm : b < m := by rw [← hf.1]; exact hbl
      have HEND := fun w (h1 : Sgs w a n L) (h2 : Sl w A m F) => s_l04End a n cap L A m capF F b w h1 h2 hk hbm
      obtain ⟨f, h, c, z, R, hB⟩ := bl_of hv hk hbl hs.1
      rw [hB.end', show ((h + 1 : Nat) : Int) = (h : Int) + 1 by omega] at HEND
      have hmf := may_facts hB he hb0
      have hab := (enB_iff x y).1 he
      have e2 : Hid (sbV L F b x y = upL L h - upL L f + sbH L F b y) := Lib.hid (by unfold sbV; rw [e1.out]; show upL L (hoK L F b) - upL L (fstK F b) + sbH L F b y = _; rw [← hB.he, ← hB.fe])
      have e3 : Hid (sbH L F b y = if brk z.k = true then cei ((y + clH R c) * z.l) (wkL z) else z.l) := Lib.hid (by unfold sbH; rw [← hB.ye, ← hB.Re, ← hB.cn])
      have HB := Lib.hid hB
      have hfh := hB.le; have hhn := hB.lt; have h24 := hB.n24
      have hch : c = h - f := hB.ce
      obtain ⟨bF, oF, rfl, ck⟩ := hf.at b hbm
      rw [(blk_bd hk b hbl).1, ← hB.fe] at ck
      have HCK := Lib.hid ck
      have HLn := Lib.hid hs.1
      have hbF := cell_lt ck
      obtain ⟨b0, o0, rfl, hb0', _⟩ := hs.at 0 (by omega)
      have HA : Hid (∀ u, some (⟨b0, o0, none⟩ : Addr) = some u → u.block < w.heap.size) := Lib.hid (fun u e => by cases e; exact hb0')
      clear hs hf h0 hf0 hsec hB hv hk he hp hp2 ck
      go_enter Try.func27, Try.ntmps27
      go_upto_region 1 with (fail)
      refine into (fun W => SbS w (some ⟨b0, o0, none⟩) n cap L x y W) ⟨?_, ?_, HS.out.later (by repeat (first | (with_reducible exact Later.refl _) | (with_reducible exact Hid.out (by assumption)) | (with_reducible refine Later.alloc ?_ _) | (with_reducible refine Later.setCell ?_ (by simp; omega) _) | (with_reducible refine Later.setCell ?_ (by simp) _) | (with_reducible refine Later.drewN ?_ _) | (with_reducible refine Later.drew ?_) | (with_reducible refine Later.trans ?_ (Hid.out (by assumption))))), (by repeat (first | (with_reducible exact Later.refl _) | (with_reducible exact Hid.out (by assumption)) | (with_reducible refine Later.alloc ?_ _) | (with_reducible refine Later.setCell ?_ (by simp; omega) _) | (with_reducible refine Later.setCell ?_ (by simp) _) | (with_reducible refine Later.drewN ?_ _) | (with_reducible refine Later.drew ?_) | (with_reducible refine Later.trans ?_ (Hid.out (by assumption)))))⟩ ?_
      · exact fr_alloc (X := w) (l := [.slice (some ⟨b0, o0, none⟩) n cap]) (T := 26) (Later.alloc (Later.refl _) _)
      · have F1 := fr_alloc (X := w.alloc (.cells [Value.slice (some ⟨b0, o0, none⟩) n cap].toArray 26)) (l := [.int .i64 x, .int .i64 y]) (T := 28) (Later.refl _)
        simp only [World.size_alloc] at F1
        exact F1
      intro W hW
      have HW := Lib.hid hW
      obtain ⟨k2, _⟩ := Fr.o1 hW.l
      obtain ⟨k0, k1, r0, r1⟩ := Fr.o2 hW.e
      have z0 := hW.l.lt
      have z1 := hW.e.lt
      clear hW
      have hwp : IntKind.i64.wrap ((h : Int) + 1 - 1) = (h : Int) := by rw [show (h : Int) + 1 - 1 = h by omega]; exact IntWalk.i64_in _ ⟨by omega, by omega⟩
      have hw2 : IntKind.i64.wrap (h : Int) = (h : Int) := IntWalk.i64_in _ ⟨by omega, by omega⟩
      have hw0 : ((h : Int) + 1 - 1) = (h : Int) := by omega
      go_wp2_with (first
          | (go_at_call 55; refine (HM _ (HS.out.later (HW.out.lt.trans (by repeat (first | (with_reducible exact Later.refl _) | (with_reducible exact Hid.out (by assumption)) | (with_reducible refine Later.alloc ?_ _) | (with_reducible refine Later.setCell ?_ (by simp; omega) _) | (with_reducible refine Later.setCell ?_ (by simp) _) | (with_reducible refine Later.drewN ?_ _) | (with_reducible refine Later.drew ?_) | (with_reducible refine Later.trans ?_ (Hid.out (by assumption))))))) (HF.out.later (HW.out.lt.trans (by repeat (first | (with_reducible exact Later.refl _) | (with_reducible exact Hid.out (by assumption)) | (with_reducible refine Later.alloc ?_ _) | (with_reducible refine Later.setCell ?_ (by simp; omega) _) | (with_reducible refine Later.setCell ?_ (by simp) _) | (with_reducible refine Later.drewN ?_ _) | (with_reducible refine Later.drew ?_) | (with_reducible refine Later.trans ?_ (Hid.out (by assumption)))))))).mono ?_; rintro e w1 ⟨rfl, hb⟩; have H1 : Hid (Later W w1) := Lib.hid (Later.trans (by repeat (first | (with_reducible exact Later.refl _) | (with_reducible exact Hid.out (by assumption)) | (with_reducible refine Later.alloc ?_ _) | (with_reducible refine Later.setCell ?_ (by simp; omega) _) | (with_reducible refine Later.setCell ?_ (by simp) _) | (with_reducible refine Later.drewN ?_ _) | (with_reducible refine Later.drew ?_) | (with_reducible refine Later.trans ?_ (Hid.out (by assumption))))) hb); obtain ⟨H, hcc, hff, hzz⟩ := later_facts hb; clear hb; (try simp only [World.size_alloc] at hzz); have hy0 : w.heap.size < w1.heap.size := (by omega); have hy1 : w.heap.size + 1 < w1.heap.size := (by omega))
          | (go_at_call 56; refine (HEND _ (HS.out.later (HW.out.lt.trans (by repeat (first | (with_reducible exact Later.refl _) | (with_reducible exact Hid.out (by assumption)) | (with_reducible refine Later.alloc ?_ _) | (with_reducible refine Later.setCell ?_ (by simp; omega) _) | (with_reducible refine Later.setCell ?_ (by simp) _) | (with_reducible refine Later.drewN ?_ _) | (with_reducible refine Later.drew ?_) | (with_reducible refine Later.trans ?_ (Hid.out (by assumption))))))) (HF.out.later (HW.out.lt.trans (by repeat (first | (with_reducible exact Later.refl _) | (with_reducible exact Hid.out (by assumption)) | (with_reducible refine Later.alloc ?_ _) | (with_reducible refine Later.setCell ?_ (by simp; omega) _) | (with_reducible refine Later.setCell ?_ (by simp) _) | (with_reducible refine Later.drewN ?_ _) | (with_reducible refine Later.drew ?_) | (with_reducible refine Later.trans ?_ (Hid.out (by assumption)))))))).mono ?_; rintro e w2 ⟨rfl, hb⟩; have H2 : Hid (Later W w2) := Lib.hid (H1.out.trans hb); obtain ⟨H, hcc, hff, hzz⟩ := later_facts hb; clear hb; (try simp only [World.size_alloc] at hzz); have hy0 : w.heap.size < w2.heap.size := (by omega); have hy1 : w.heap.size + 1 < w2.heap.size := (by omega); have ck : w2.cell? ⟨bF, oF + b, none⟩ = some (.int .i64 f) := by rw [(HW.out.lt.trans H2.out).cell (p := ⟨bF, oF + b, none⟩) hbF]; exact HCK.out))
      have M2 := Lib.hid (HW.out.later H2.out)
      clear k0 k1 k2 r0 r1 z0 z1 hy0 hy1 hcc hff hzz ck hwp hw2 hw0
      go_loopw [12, 14] (fun at' i wr => ∃ j : Nat, j ≤ c ∧ i = .int .i64 ((f + j : Nat) : Int) ∧ at' = .int .i64 (upL L (f + j) - upL L f) ∧ SbS w (some ⟨b0, o0, none⟩) n cap L (x + clL R j) (y + clH R j) wr) (fun _ i _ => h - (intOf i).toNat)
      case atStart => exact ⟨0, by omega, rfl, by rw [Nat.add_zero, Int.sub_self], by rw [clL_0, clH_0, Int.add_zero, Int.add_zero]; exact M2.out⟩
      case round =>
        obtain ⟨j, hj, rfl, rfl, hM⟩ := hrel
        have M := Lib.hid hM
        clear hM M2 H1 H2
        by_cases hlt : j < c
        · have hseg : sgB (sx R j) = true := okB_at R R.length j (Nat.le_refl _) (by rw [HB.out.Rl]; exact hlt) HB.out.Rok
          obtain ⟨d1, d2, d3⟩ := cl_bd R HB.out.Rok j (by rw [HB.out.Rl]; exact hj)
          obtain ⟨d4, d5, d6⟩ := cl_bd R HB.out.Rok (j + 1) (by rw [HB.out.Rl]; exact hlt)
          obtain ⟨d7, d8, d9⟩ := ch_bd (sx R j) hseg
          obtain ⟨ab1, ab2, ab3⟩ := hab
          have hfn : f + j < n := by omega
          have hfj : f + j < h := by omega
          have hln := ((sgB_iff (sx R j)).1 hseg).2.1
          have bd1 := up_bd L (f + j) (by rw [HLn.out]; omega) (okB_le L L.length (f + j) (by rw [HLn.out]; omega) HB.out.ok)
          have bd2 := up_bd L f (by rw [HLn.out]; omega) (okB_le L L.length f (by rw [HLn.out]; omega) HB.out.ok)
          have bd3 := upL_mono L f (f + j) (by omega) (by rw [HLn.out]; omega) HB.out.ok
          have us : upL L (f + j + 1) = upL L (f + j) + (sx R j).l := by rw [upL_succ L (f + j) (by rw [HLn.out]; exact hfn), HB.out.Rat j hlt]
          obtain ⟨X, hX⟩ : ∃ X, X = x + clL R (j + 1) := ⟨_, rfl⟩
          obtain ⟨Y, hY⟩ : ∃ Y, Y = y + clH R (j + 1) := ⟨_, rfl⟩
          have q1 : x + clL R j + chL (sx R j) = X := by rw [hX, clL_succ R j (by rw [HB.out.Rl]; exact hlt)]; omega
          have q2 : y + clH R j + chH (sx R j) = Y := by rw [hY, clH_succ R j (by rw [HB.out.Rl]; exact hlt)]; omega
          have HSM := fun w => s_l06Sum (x + clL R j) (y + clH R j) (chL (sx R j)) (chH (sx R j)) w (by omega) (by omega) (by omega) (by omega) (by omega) (by omega) (by omega) (by omega)
          rw [q1, q2] at HSM
          have HCH := fun w => s_Change (sx R j) w hseg
          have HX := Lib.hid hX; have HY := Lib.hid hY
          have hwa : IntKind.i64.wrap (upL L (f + j) - upL L f + (sx R j).l) = upL L (f + j) - upL L f + (sx R j).l := IntWalk.i64_in _ ⟨by omega, by omega⟩
          obtain ⟨m1, m2, m3, m4⟩ := Fr.o2 M.out.e
          obtain ⟨n1, _⟩ := Fr.o1 M.out.l
          have zs := M.out.e.lt
          have zl := M.out.l.lt
          obtain ⟨b', o', hbb, hb', c0, c1, c2, c3, c4, c5, c6⟩ := M.out.sg.at (f + j) hfn
          simp only [Option.some.injEq, Addr.mk.injEq, and_true] at hbb
          obtain ⟨rfl, rfl⟩ := hbb
          rw [← HB.out.Rat j hlt] at c0 c1 c2 c3 c4 c5 c6
          generalize x + clL R j = P at *
          generalize y + clH R j = Q at *
          clear d1 d2 d3 d4 d5 d6 d7 d8 d9 ab1 ab2 ab3 hX hY q1 q2 bd1 bd2 bd3
          go_upto_region 11 with (fail)
          go_region_with (first
            | (go_at_call 58; refine (HCH _).mono ?_; rintro e w7 ⟨rfl, hb⟩; (first | (have M := Lib.hid (M.out.later hb)) | (have M := Lib.hid (M.out.later (later_undrew hb))) | (have M := Lib.hid (M.out.later (later_undrewN hb)))); obtain ⟨m1, m2, m3, m4⟩ := Fr.o2 M.out.e; obtain ⟨n1, _⟩ := Fr.o1 M.out.l; have zs := M.out.e.lt; have zl := M.out.l.lt; obtain ⟨b', o', hbb, hb', c0, c1, c2, c3, c4, c5, c6⟩ := M.out.sg.at (f + j) hfn; simp only [Option.some.injEq, Addr.mk.injEq, and_true] at hbb; obtain ⟨rfl, rfl⟩ := hbb; rw [← HB.out.Rat j hlt] at c0 c1 c2 c3 c4 c5 c6; clear hb)
            | (go_at_call 57; refine (HSM _).mono ?_; rintro e w7 ⟨rfl, hb⟩; (first | (have M := Lib.hid (M.out.later hb)) | (have M := Lib.hid (M.out.later (later_undrew hb))) | (have M := Lib.hid (M.out.later (later_undrewN hb)))); obtain ⟨m1, m2, m3, m4⟩ := Fr.o2 M.out.e; obtain ⟨n1, _⟩ := Fr.o1 M.out.l; have zs := M.out.e.lt; have zl := M.out.l.lt; obtain ⟨b', o', hbb, hb', c0, c1, c2, c3, c4, c5, c6⟩ := M.out.sg.at (f + j) hfn; simp only [Option.some.injEq, Addr.mk.injEq, and_true] at hbb; obtain ⟨rfl, rfl⟩ := hbb; rw [← HB.out.Rat j hlt] at c0 c1 c2 c3 c4 c5 c6; clear hb))
          all_goals
            have hn1 : ¬ b0 = w.heap.size + 1 := by omega
            have hn2 : ¬ w.heap.size + 1 = b0 := by omega
            go_wp2_with fail
            go_roundw
            case rel => exact ⟨j + 1, by omega, by go_num, by rw [show f + (j + 1) = f + j + 1 by omega, us]; go_num, by rw [← HX.out, ← HY.out]; exact (M.out.setE HA.out X Y).later (by repeat (first | exact Later.refl _ | refine Later.drew ?_ | refine Later.drewN ?_ _))⟩
            case measure => simp [intOf]; omega
        · obtain rfl : c = j := by omega
          obtain ⟨m1, m2, m3, m4⟩ := Fr.o2 M.out.e
          obtain ⟨n1, _⟩ := Fr.o1 M.out.l
          have zs := M.out.e.lt
          have zl := M.out.l.lt
          obtain ⟨b', o', hbb, hb', c0, c1, c2, c3, c4, c5, c6⟩ := M.out.sg.at h hhn
          simp only [Option.some.injEq, Addr.mk.injEq, and_true] at hbb
          obtain ⟨rfl, rfl⟩ := hbb
          rw [show sx L h = z by rw [HB.out.ye, HB.out.he]; rfl] at c0 c1 c2 c3 c4 c5 c6
          have hnf : ¬ ((f + c : Nat) : Int) < (h : Int) := by omega
          have hnc : ¬ f + c < h := by omega
          obtain ⟨_, m5, m6⟩ := hmf
          have hw := wk_bd z HB.out.ysg
          have hzl := ((sgB_iff z).1 HB.out.ysg).2.1
          have he9 := (enB_iff _ _).1 m5
          have bd1 := up_bd L (f + c) (by rw [HLn.out]; omega) (okB_le L L.length (f + c) (by rw [HLn.out]; omega) HB.out.ok)
          have bd2 := up_bd L f (by rw [HLn.out]; omega) (okB_le L L.length f (by rw [HLn.out]; omega) HB.out.ok)
          have bd3 := upL_mono L f (f + c) (by omega) (by rw [HLn.out]; omega) HB.out.ok
          have e4 : Hid (sbV L F b x y = upL L (f + c) - upL L f + sbH L F b y) := Lib.hid (by rw [e2.out, show h = f + c by omega])
          generalize hUT : upL L (f + c) - upL L f = UT at *
          have hUT0 : 0 ≤ UT := by omega
          have hUT1 : UT ≤ 5000000 := by omega
          cases hbk : brk z.k
          · have e5 : Hid (sbV L F b x y = UT + z.l) := Lib.hid (by rw [e4.out, e3.out, hbk]; rfl)
            have hwa : IntKind.i64.wrap (UT + z.l) = UT + z.l := IntWalk.i64_in _ ⟨by omega, by omega⟩
            clear hch hw he9 bd1 bd2 bd3 m5 m6 hUT
            go_wp2_with (first | (go_at_call 59; refine (s_Brake z _ hbk _).mono ?_; rintro e w3 ⟨rfl, hb⟩; have HW3 := Lib.hid (M.out.lt.trans (Later.trans (by repeat (first | (with_reducible exact Later.refl _) | (with_reducible exact Hid.out (by assumption)) | (with_reducible refine Later.alloc ?_ _) | (with_reducible refine Later.setCell ?_ (by simp; omega) _) | (with_reducible refine Later.setCell ?_ (by simp) _) | (with_reducible refine Later.drewN ?_ _) | (with_reducible refine Later.drew ?_) | (with_reducible refine Later.trans ?_ (Hid.out (by assumption))))) hb)); obtain ⟨H, hcc, hff, hzz⟩ := later_facts hb; clear hb; (try simp only [World.size_alloc] at hzz); (try (have hy1 : w.heap.size + 1 < w3.heap.size := (by omega))); (try (have hy3 : wr.heap.size < w3.heap.size := (by omega)))) | (go_at_call 61; refine (s_Work z _ HB.out.ysg).mono ?_; rintro e w4 ⟨rfl, hb⟩; have HW4 := Lib.hid (HW3.out.trans (Later.trans (by repeat (first | (with_reducible exact Later.refl _) | (with_reducible exact Hid.out (by assumption)) | (with_reducible refine Later.alloc ?_ _) | (with_reducible refine Later.setCell ?_ (by simp; omega) _) | (with_reducible refine Later.setCell ?_ (by simp) _) | (with_reducible refine Later.drewN ?_ _) | (with_reducible refine Later.drew ?_) | (with_reducible refine Later.trans ?_ (Hid.out (by assumption))))) hb)); obtain ⟨H, hcc, hff, hzz⟩ := later_facts hb; clear hb; (try simp only [World.size_alloc] at hzz); (try (have hy1 : w.heap.size + 1 < w4.heap.size := (by omega))); (try (have hy3 : wr.heap.size < w4.heap.size := (by omega)))) | (go_at_call 60; refine (HCE _).mono ?_; rintro e w5 ⟨rfl, rfl⟩))
            go_ret2
            exact ⟨ret_2i e5.out.symm e1.out.symm, (by repeat (first | (with_reducible exact Later.refl _) | (with_reducible exact Hid.out (by assumption)) | (with_reducible refine Later.alloc ?_ _) | (with_reducible refine Later.setCell ?_ (by simp; omega) _) | (with_reducible refine Later.setCell ?_ (by simp) _) | (with_reducible refine Later.drewN ?_ _) | (with_reducible refine Later.drew ?_) | (with_reducible refine Later.trans ?_ (Hid.out (by assumption)))))⟩
          · obtain ⟨w1, w2⟩ := m6 hbk
            generalize hQQ : y + clH R c = Q at *
            have hnm := nn_mul Q z.l (by omega) (by omega) hzl.1 hzl.2
            obtain ⟨B, hB⟩ : ∃ B, B = Q * z.l := ⟨_, rfl⟩
            rw [← hB] at hnm
            have hwb : IntKind.i64.wrap (Q * z.l) = B := by rw [← hB]; exact IntWalk.i64_in _ ⟨by omega, by omega⟩
            have hci := cei_nn B (wkL z) hnm.1 (by omega)
            have hcb := tdiv_bd (B + wkL z - 1) (wkL z) 4000000000000000 (by omega) (by omega)
            rw [← hci] at hcb
            have HCE := fun w => s_CeilB B (wkL z) w (by omega) (by omega) (by omega) (by omega) (by omega)
            have e5 : Hid (sbV L F b x y = UT + cei B (wkL z)) := Lib.hid (by rw [e4.out, e3.out, hbk, hB]; rfl)
            have hfd : ∀ w : World, (Instr.field 28 (.agg #[.int .i64 (wkL z), .int .i64 (wkH z)]) 0).run Try.prog w = .ok (.int .i64 (wkL z)) w := fun _ => by kernel_rfl
            have hwa : IntKind.i64.wrap (UT + cei B (wkL z)) = UT + cei B (wkL z) := IntWalk.i64_in _ ⟨by omega, by omega⟩
            generalize cei B (wkL z) = D at *
            clear hch hw he9 bd1 bd2 bd3 m5 m6 hUT hci hcb hnm w1 w2 hQQ hB
            generalize x + clL R c = P at *
            go_wp2_with (first | (go_at_call 59; refine (s_Brake z _ hbk _).mono ?_; rintro e w3 ⟨rfl, hb⟩; have HB3 := Lib.hid hb; obtain ⟨H, hcc, hff, hzz⟩ := later_facts hb; clear hb; (try simp only [World.size_alloc] at hzz); (try (have hy1 : w.heap.size + 1 < w3.heap.size := (by omega))); (try (have hy3 : wr.heap.size < w3.heap.size := (by omega)))))
            have h9 : Held [(wr.heap.size, 0, .int .i64 z.k), (wr.heap.size, 1, .int .i64 z.l), (wr.heap.size, 2, .int .i64 z.r), (wr.heap.size, 3, .int .i64 z.a), (wr.heap.size, 4, .int .i64 z.b), (wr.heap.size, 5, .int .i64 z.c), (wr.heap.size, 6, .int .i64 z.d), (w.heap.size + 1, 0, .int .i64 P), (w.heap.size + 1, 1, .int .i64 Q)] w w3 := (held_box (held_more (held_more (⟨fun u hu => by simp at hu, M.out.lt⟩ : Held [] w wr) (w.heap.size + 1) 1 _ m2 zs) (w.heap.size + 1) 0 _ m1 zs) wr.heap.size [.int .i64 z.k, .int .i64 z.l, .int .i64 z.r, .int .i64 z.a, .int .i64 z.b, .int .i64 z.c, .int .i64 z.d] _ rfl).later HB3.out
            refine into (fun W => Held [(wr.heap.size, 0, .int .i64 z.k), (wr.heap.size, 1, .int .i64 z.l), (wr.heap.size, 2, .int .i64 z.r), (wr.heap.size, 3, .int .i64 z.a), (wr.heap.size, 4, .int .i64 z.b), (wr.heap.size, 5, .int .i64 z.c), (wr.heap.size, 6, .int .i64 z.d), (w.heap.size + 1, 0, .int .i64 P), (w.heap.size + 1, 1, .int .i64 Q)] w W) (by repeat (first | exact h9 | refine Held.drew ?_ | refine Held.drewN ?_ _)) ?_
            clear h9 m1 m2 m3 m4 n1 zs zl c0 c1 c2 c3 c4 c5 c6 hcc hff hzz
            intro W9 h9
            have H9 := Lib.hid h9
            clear h9
            go_region_held3 (fun w' => w'.cell? ⟨wr.heap.size, 0, none⟩ = some (.int .i64 z.k) ∧ w'.cell? ⟨wr.heap.size, 1, none⟩ = some (.int .i64 z.l) ∧ w'.cell? ⟨wr.heap.size, 2, none⟩ = some (.int .i64 z.r) ∧ w'.cell? ⟨wr.heap.size, 3, none⟩ = some (.int .i64 z.a) ∧ w'.cell? ⟨wr.heap.size, 4, none⟩ = some (.int .i64 z.b) ∧ w'.cell? ⟨wr.heap.size, 5, none⟩ = some (.int .i64 z.c) ∧ w'.cell? ⟨wr.heap.size, 6, none⟩ = some (.int .i64 z.d) ∧ w'.cell? ⟨w.heap.size + 1, 0, none⟩ = some (.int .i64 P) ∧ w'.cell? ⟨w.heap.size + 1, 1, none⟩ = some (.int .i64 Q) ∧ Held [(wr.heap.size, 0, .int .i64 z.k), (wr.heap.size, 1, .int .i64 z.l), (wr.heap.size, 2, .int .i64 z.r), (wr.heap.size, 3, .int .i64 z.a), (wr.heap.size, 4, .int .i64 z.b), (wr.heap.size, 5, .int .i64 z.c), (wr.heap.size, 6, .int .i64 z.d), (w.heap.size + 1, 0, .int .i64 P), (w.heap.size + 1, 1, .int .i64 Q)] w w') (exact Held.s9 (Held.later H9.out (by repeat (first | (with_reducible exact Later.refl _) | (with_reducible exact Hid.out (by assumption)) | (with_reducible refine Later.alloc ?_ _) | (with_reducible refine Later.setCell ?_ (by simp; omega) _) | (with_reducible refine Later.setCell ?_ (by simp) _) | (with_reducible refine Later.drewN ?_ _) | (with_reducible refine Later.drew ?_) | (with_reducible refine Later.trans ?_ (Hid.out (by assumption)))))))
              (first
                | (go_at_call 61; refine (s_Work z _ HB.out.ysg).mono ?_; rintro e w4 ⟨rfl, hb⟩; have H4 := Lib.hid hb; clear hb)
                | (go_at_call 60; refine (HCE _).mono ?_; rintro e w5 ⟨rfl, rfl⟩))
            all_goals
              go_wp2_with fail
              go_ret2
              exact ⟨ret_2i e5.out.symm e1.out.symm, H9.out.is.trans (by repeat (first | (with_reducible exact Later.refl _) | (with_reducible exact Hid.out (by assumption)) | (with_reducible refine Later.alloc ?_ _) | (with_reducible refine Later.setCell ?_ (by simp; omega) _) | (with_reducible refine Later.setCell ?_ (by simp) _) | (with_reducible refine Later.drewN ?_ _) | (with_reducible refine Later.drew ?_) | (with_reducible refine Later.trans ?_ (Hid.out (by assumption)))))⟩
  · have e1 : Hid (sbE L F p x y = meE L F p x y) := Lib.hid (by unfold sbE; rw [if_neg h0])
    have e2 : Hid (sbV L F p x y = 0) := Lib.hid (by unfold sbV okV; rw [e1.out, if_neg h0])
    have hbf : meB L F p x y = false := by unfold meB; simp [h0]
    rw [hbf] at HM
    generalize meE L F p x y = ce at *
    have hne : (ce != 0) = true := by simpa using h0
    have hne2 : (ce == 0) = false := by simpa using h0
    clear hs hf h0 hbf hp hp2
    go_enter Try.func27, Try.ntmps27
    go_wp2_with (go_at_call 55; refine (HM _ (HS.out.later (by repeat (first | (with_reducible exact Later.refl _) | (with_reducible exact Hid.out (by assumption)) | (with_reducible refine Later.alloc ?_ _) | (with_reducible refine Later.setCell ?_ (by simp; omega) _) | (with_reducible refine Later.setCell ?_ (by simp) _) | (with_reducible refine Later.drewN ?_ _) | (with_reducible refine Later.drew ?_) | (with_reducible refine Later.trans ?_ (Hid.out (by assumption)))))) (HF.out.later (by repeat (first | (with_reducible exact Later.refl _) | (with_reducible exact Hid.out (by assumption)) | (with_reducible refine Later.alloc ?_ _) | (with_reducible refine Later.setCell ?_ (by simp; omega) _) | (with_reducible refine Later.setCell ?_ (by simp) _) | (with_reducible refine Later.drewN ?_ _) | (with_reducible refine Later.drew ?_) | (with_reducible refine Later.trans ?_ (Hid.out (by assumption))))))).mono ?_; rintro e w1 ⟨rfl, hb⟩; obtain ⟨H, hcc, hff, hzz⟩ := later_facts hb; clear hb; (try simp at hzz))
    go_ret2
    exact ⟨ret_2i e2.out.symm e1.out.symm, (by repeat (first | (with_reducible exact Later.refl _) | (with_reducible exact Hid.out (by assumption)) | (with_reducible refine Later.alloc ?_ _) | (with_reducible refine Later.setCell ?_ (by simp; omega) _) | (with_reducible refine Later.setCell ?_ (by simp) _) | (with_reducible refine Later.drewN ?_ _) | (with_reducible refine Later.drew ?_) | (with_reducible refine Later.trans ?_ (Hid.out (by assumption)))))⟩
end Go.Proofs.Ytnmlkigpiaekjaa
namespace Go.Proofs.Ytnmlkigpiaekjaa
open Go.RowKit
set_option maxHeartbeats 4000000
set_option linter.unusedVariables false
set_option linter.unusedSimpArgs false
set_option maxRecDepth 100000 in
theorem walk_FnExactStopBound (a : Option Addr) (n cap : Nat) (L : List Sg) (A : Option Addr) (m capF : Nat) (Z : List Int) (p : Int) (x y : Int) (w : World) (hcap : n ≤ cap) (hs : Sgs w a n L) (u1 : IsRow .i64 w A m capF Z) (u2 : (Lit.int .i64 p).wf = true) (u3 : (Lit.int .i64 x).wf = true) (u4 : (Lit.int .i64 y).wf = true) :
    Calls Try.prog 7 #[.agg #[.slice a n cap], .slice A m capF, .int .i64 p, .agg #[.int .i64 x, .int .i64 y]] w fun e w' => e = .returned (.bool true) ∧ Later w w' := by
  have HS := Lib.hid hs
  have hn := hs.2.1
  have hcF := isRow_leE u1
  obtain ⟨F, hF⟩ : ∃ F, F = Z.take m := ⟨_, rfl⟩
  have HF := Lib.hid (isRow_sl u1)
  rw [← hF] at HF
  have hm := HF.out.2.1
  obtain ⟨hp, hp2⟩ := i64w u2
  clear hs u1 u2 hF
  clear u3 u4
  have HMS := fun q1 q2 w h1 h2 => s_StopBound q1 n n L q2 m m F p x y w h1 h2 hp hp2
  have HMI := fun q1 q2 w h1 h2 => i_StopBound q1 n n L q2 m m F p x y w h1 h2 (Nat.le_refl _) (Nat.le_refl _)
  generalize sbV L F p x y = rv at *
  generalize sbE L F p x y = ce at *
  have e0 : (rv != rv) = false := by simp
  have e1 : (ce != ce) = false := by simp
  by_cases hbm : 1048576 < m
  · go_enter Try.func7, Try.ntmps7
    go_wp2
    go_ret
    exact ⟨rfl, (by repeat (first | (with_reducible exact Later.refl _) | (with_reducible exact Hid.out (by assumption)) | (with_reducible refine Later.alloc ?_ _) | (with_reducible refine Later.setCell ?_ (by simp; omega) _) | (with_reducible refine Later.setCell ?_ (by simp) _) | (with_reducible refine Later.drewN ?_ _) | (with_reducible refine Later.drew ?_) | (with_reducible refine Later.trans ?_ (Hid.out (by assumption)))))⟩
  by_cases hbig : 1048576 < n
  · have hz := Lib.hid (szI_big hbig)
    go_enter Try.func7, Try.ntmps7
    go_wp2_with (go_at_call 19; refine (l_szLayout a n cap _ hn).mono ?_; rw [hz.out]; rintro e w1 ⟨rfl, hb⟩; have H := Lib.hid hb; clear hb)
    go_ret
    exact ⟨rfl, (by repeat (first | (with_reducible exact Later.refl _) | (with_reducible exact Hid.out (by assumption)) | (with_reducible refine Later.alloc ?_ _) | (with_reducible refine Later.setCell ?_ (by simp; omega) _) | (with_reducible refine Later.setCell ?_ (by simp) _) | (with_reducible refine Later.drewN ?_ _) | (with_reducible refine Later.drew ?_) | (with_reducible refine Later.trans ?_ (Hid.out (by assumption)))))⟩
  have hle : n ≤ 1048576 := by omega
  have hlm : m ≤ 1048576 := by omega
  have HSZ := fun w => l_szLayout a n cap w hn
  rw [szI_ok hle] at HSZ
  clear hbig hbm
  go_enter Try.func7, Try.ntmps7
  go_upto_region 1 with (fail)
  refine into (Held [(w.heap.size + 1, 0, .int .i64 x), (w.heap.size + 1, 1, .int .i64 y), (w.heap.size, 0, .slice a n cap)] w) (held_box (held_box (held_start w) w.heap.size [.slice a n cap] _ rfl) (w.heap.size + 1) [.int .i64 x, .int .i64 y] _ (by simp)) ?_
  intro w1 h1
  have H1 := Lib.hid h1
  clear h1
  obtain ⟨k0, k1, k2, _⟩ := Held.s3 H1.out
  have zz0 := H1.out.lt (w.heap.size + 1) 0 (.int .i64 x) (by simp)
  have zz1 := H1.out.lt (w.heap.size) 0 (.slice a n cap) (by simp)
  go_wp2_with fail
  refine (HSZ _).mono ?_
  rintro e w2 ⟨rfl, hb⟩
  have hb : Later w1 w2 := hb
  have H2 := Lib.hid (H1.out.later hb)
  skip
  clear hb k0 k1 k2
  go_wp2_with fail
  go_cut [10, 11] (fun s1 s2 W => s1 = .int .i64 rv ∧ s2 = .int .i64 ce ∧ Held [(w.heap.size + 1, 0, .int .i64 x), (w.heap.size + 1, 1, .int .i64 y), (w.heap.size, 0, .slice a n cap)] w W)
  case first =>
    go_region_held3 (fun w' => w'.cell? ⟨w.heap.size + 1, 0, none⟩ = some (.int .i64 x) ∧ w'.cell? ⟨w.heap.size + 1, 1, none⟩ = some (.int .i64 y) ∧ w'.cell? ⟨w.heap.size, 0, none⟩ = some (.slice a n cap) ∧ Held [(w.heap.size + 1, 0, .int .i64 x), (w.heap.size + 1, 1, .int .i64 y), (w.heap.size, 0, .slice a n cap)] w w') (exact Held.s3 (Held.later H2.out (by repeat (first | exact Later.refl _ | refine Later.drew ?_ | refine Later.drewN ?_ _ | refine Later.alloc ?_ _ | refine Later.trans ?_ (Hid.out (by assumption))))))
      (first
        | (go_at_call 20; refine (l_toLayout a n cap L _ (HS.out.later (Held.is (Held.later H2.out (by repeat (first | exact Later.refl _ | refine Later.drew ?_ | refine Later.drewN ?_ _ | refine Later.alloc ?_ _ | refine Later.trans ?_ (Hid.out (by assumption))))))) hle).mono ?_; rintro e wp ⟨gp, rfl, hgp, hrp, hbp⟩; have HP := Lib.hid hbp; have SP := Lib.hid (hrp.sgs HS.out.1 (by omega) HS.out.2.2.2); clear hbp hrp hgp)
        | (go_at_call 28; refine (l_toInt64S A m capF F _ (HF.out.later (Held.is (Held.later H2.out (by repeat (first | exact Later.refl _ | refine Later.drew ?_ | refine Later.drewN ?_ _ | refine Later.alloc ?_ _ | refine Later.trans ?_ (Hid.out (by assumption))))))) hlm).mono ?_; rintro e wi ⟨gi, rfl, hgi, hri, hsi, hbi⟩; have HI : Hid (Later _ wi) := Lib.hid hbi; have FI := Lib.hid hsi; clear hbi hri hgi hsi)
        | (go_at_call 21; refine (l_toInterval _ _ _).mono ?_; rintro e wt ⟨rfl, hbt⟩; have HT := Lib.hid hbt; clear hbt)
        | (go_at_call 27; refine (HMS _ _ _ (SP.out.later (by repeat (first | exact Later.refl _ | refine Later.drew ?_ | refine Later.drewN ?_ _ | refine Later.alloc ?_ _ | refine Later.trans ?_ (Hid.out (by assumption))))) (FI.out.later (by repeat (first | exact Later.refl _ | refine Later.drew ?_ | refine Later.drewN ?_ _ | refine Later.alloc ?_ _ | refine Later.trans ?_ (Hid.out (by assumption)))))).mono ?_; rintro e wq ⟨rfl, hbq⟩; have HQ := Lib.hid hbq; clear hbq))
    all_goals
      go_wp2_with fail
      go_meet
      exact ⟨rfl, rfl, Held.later H2.out (by repeat (first | exact Later.refl _ | refine Later.drew ?_ | refine Later.drewN ?_ _ | refine Later.alloc ?_ _ | refine Later.trans ?_ (Hid.out (by assumption))))⟩
  case rest =>
    obtain ⟨rfl, rfl, h9⟩ := hcut
    obtain ⟨w3, rfl⟩ : ∃ w3, w3 = wc := ⟨_, rfl⟩
    have H3 := Lib.hid h9
    clear h9
    obtain ⟨k0, k1, k2, _⟩ := Held.s3 H3.out
    have zz0 := H3.out.lt (w.heap.size + 1) 0 (.int .i64 x) (by simp)
    have zz1 := H3.out.lt (w.heap.size) 0 (.slice a n cap) (by simp)
    go_wp2_with fail
    refine (l_toLayout a n cap L _ (HS.out.later H3.out.is) hle).mono ?_
    rintro e w4 ⟨g5, rfl, hg5, hr5, hb⟩
    have hb : Later w3 w4 := hb
    have H4 := Lib.hid (H3.out.later hb)
    have S5 := Lib.hid (hr5.sgs HS.out.1 (by omega) HS.out.2.2.2)
    clear hb k0 k1 k2 hr5 hg5
    obtain ⟨k0, k1, k2, _⟩ := Held.s3 H4.out
    have zz0 := H4.out.lt (w.heap.size + 1) 0 (.int .i64 x) (by simp)
    have zz1 := H4.out.lt (w.heap.size) 0 (.slice a n cap) (by simp)
    go_wp2_with fail
    have HT : Hid (Held [(w4.heap.size, 0, .slice (some ⟨g5, 0, none⟩) n n), (w.heap.size + 1, 0, .int .i64 x), (w.heap.size + 1, 1, .int .i64 y), (w.heap.size, 0, .slice a n cap)] w (w4.alloc (.cells #[.slice (some ⟨g5, 0, none⟩) n n] 26))) := Lib.hid (held_box H4.out w4.heap.size [.slice (some ⟨g5, 0, none⟩) n n] 26 rfl)
    refine (l_toInt64S A m capF F _ (HF.out.later HT.out.is) hlm).mono ?_
    rintro e w5 ⟨g6, rfl, hg6, hr6, hs6, hb⟩
    have hb : Later (w4.alloc (.cells #[.slice (some ⟨g5, 0, none⟩) n n] 26)) w5 := hb
    have H5 := Lib.hid (HT.out.later hb)
    have S5_5 := Lib.hid ((S5.out.later ((Later.refl _).alloc _)).later hb)
    have F6 := Lib.hid hs6
    clear hb k0 k1 k2 hr6 hg6 hs6
    obtain ⟨k0, k1, k2, k3, _⟩ := Held.s4 H5.out
    have zz0 := H5.out.lt (w4.heap.size) 0 (.slice (some ⟨g5, 0, none⟩) n n) (by simp)
    have zz1 := H5.out.lt (w.heap.size + 1) 0 (.int .i64 x) (by simp)
    have zz2 := H5.out.lt (w.heap.size) 0 (.slice a n cap) (by simp)
    go_upto_region 10 with (fail)
    go_cut [14, 15] (fun s1 s2 W => s1 = .int .i64 rv ∧ s2 = .int .i64 ce ∧ Held [(w4.heap.size, 0, .slice (some ⟨g5, 0, none⟩) n n), (w.heap.size + 1, 0, .int .i64 x), (w.heap.size + 1, 1, .int .i64 y), (w.heap.size, 0, .slice a n cap)] w W ∧ Later w5 W)
    case first =>
      go_region_held3 (fun w' => w'.cell? ⟨w4.heap.size, 0, none⟩ = some (.slice (some ⟨g5, 0, none⟩) n n) ∧ w'.cell? ⟨w.heap.size + 1, 0, none⟩ = some (.int .i64 x) ∧ w'.cell? ⟨w.heap.size + 1, 1, none⟩ = some (.int .i64 y) ∧ w'.cell? ⟨w.heap.size, 0, none⟩ = some (.slice a n cap) ∧ Held [(w4.heap.size, 0, .slice (some ⟨g5, 0, none⟩) n n), (w.heap.size + 1, 0, .int .i64 x), (w.heap.size + 1, 1, .int .i64 y), (w.heap.size, 0, .slice a n cap)] w w') (exact Held.s4 (Held.later H5.out (by repeat (first | exact Later.refl _ | refine Later.drew ?_ | refine Later.drewN ?_ _ | refine Later.alloc ?_ _ | refine Later.trans ?_ (Hid.out (by assumption))))))
        (first
          | (go_at_call 21; refine (l_toInterval _ _ _).mono ?_; rintro e wt ⟨rfl, hbt⟩; have HT := Lib.hid hbt; clear hbt)
          | (go_at_call 29; refine (HMI _ _ _ (S5_5.out.later (by repeat (first | exact Later.refl _ | refine Later.drew ?_ | refine Later.drewN ?_ _ | refine Later.alloc ?_ _ | refine Later.trans ?_ (Hid.out (by assumption))))) (F6.out.later (by repeat (first | exact Later.refl _ | refine Later.drew ?_ | refine Later.drewN ?_ _ | refine Later.alloc ?_ _ | refine Later.trans ?_ (Hid.out (by assumption)))))).mono ?_; rintro e wq ⟨rfl, hbq⟩; have HQ := Lib.hid hbq; clear hbq))
      all_goals
        go_wp2_with fail
        go_meet
        exact ⟨rfl, rfl, Held.later H5.out (by repeat (first | exact Later.refl _ | refine Later.drew ?_ | refine Later.drewN ?_ _ | refine Later.alloc ?_ _ | refine Later.trans ?_ (Hid.out (by assumption)))), (by repeat (first | exact Later.refl _ | refine Later.drew ?_ | refine Later.drewN ?_ _ | refine Later.alloc ?_ _ | refine Later.trans ?_ (Hid.out (by assumption))))⟩
    case rest =>
      obtain ⟨rfl, rfl, h9, hl9⟩ := hcut
      clear k0 k1 k2 k3
      obtain ⟨w6, rfl⟩ : ∃ w6, w6 = wc := ⟨_, rfl⟩
      have H6 := Lib.hid h9
      have S5_5_6 := Lib.hid (S5_5.out.later hl9)
      have F6_6 := Lib.hid (F6.out.later hl9)
      clear h9 hl9
      obtain ⟨k0, k1, k2, k3, _⟩ := Held.s4 H6.out
      have zz0 := H6.out.lt (w4.heap.size) 0 (.slice (some ⟨g5, 0, none⟩) n n) (by simp)
      have zz1 := H6.out.lt (w.heap.size + 1) 0 (.int .i64 x) (by simp)
      have zz2 := H6.out.lt (w.heap.size) 0 (.slice a n cap) (by simp)
      go_wp2_with fail
      go_region_held3 (fun w' => w'.cell? ⟨w4.heap.size, 0, none⟩ = some (.slice (some ⟨g5, 0, none⟩) n n) ∧ w'.cell? ⟨w.heap.size + 1, 0, none⟩ = some (.int .i64 x) ∧ w'.cell? ⟨w.heap.size + 1, 1, none⟩ = some (.int .i64 y) ∧ w'.cell? ⟨w.heap.size, 0, none⟩ = some (.slice a n cap) ∧ Held [(w4.heap.size, 0, .slice (some ⟨g5, 0, none⟩) n n), (w.heap.size + 1, 0, .int .i64 x), (w.heap.size + 1, 1, .int .i64 y), (w.heap.size, 0, .slice a n cap)] w w') (exact Held.s4 (Held.later H6.out (by repeat (first | exact Later.refl _ | refine Later.drew ?_ | refine Later.drewN ?_ _ | refine Later.alloc ?_ _ | refine Later.trans ?_ (Hid.out (by assumption))))))
        (first
          | (go_at_call 20; refine (l_toLayout a n cap L _ (HS.out.later (Held.is (Held.later H6.out (by repeat (first | exact Later.refl _ | refine Later.drew ?_ | refine Later.drewN ?_ _ | refine Later.alloc ?_ _ | refine Later.trans ?_ (Hid.out (by assumption))))))) hle).mono ?_; rintro e wp ⟨gp, rfl, hgp, hrp, hbp⟩; have HP := Lib.hid hbp; have SP := Lib.hid (hrp.sgs HS.out.1 (by omega) HS.out.2.2.2); clear hbp hrp hgp)
          | (go_at_call 23; refine (l_eqLayout_same _ _ n n n n L _ (S5_5_6.out.later (by repeat (first | exact Later.refl _ | refine Later.drew ?_ | refine Later.drewN ?_ _ | refine Later.alloc ?_ _ | refine Later.trans ?_ (Hid.out (by assumption))))) (SP.out.later (by repeat (first | exact Later.refl _ | refine Later.drew ?_ | refine Later.drewN ?_ _ | refine Later.alloc ?_ _ | refine Later.trans ?_ (Hid.out (by assumption)))))).mono ?_; rintro e wq ⟨rfl, hbq⟩; have HQ := Lib.hid hbq; clear hbq))
      all_goals
        go_wp2_with fail
        refine calls_into (fun W => Later w6 W) (by repeat (first | exact Later.refl _ | refine Later.drew ?_ | refine Later.drewN ?_ _ | refine Later.alloc ?_ _ | refine Later.trans ?_ (Hid.out (by assumption)))) ?_
        intro W hb
        have WW : Hid (Later w W) := Lib.hid (H6.out.is.trans hb)
        have FW := Lib.hid (F6_6.out.later hb)
        clear hb
        refine (l_toInt64S A m capF F _ (HF.out.later WW.out) hlm).mono ?_
        rintro e w10 ⟨g10, rfl, hg10, hr10, hs10, hb⟩
        have hb : Later W w10 := hb
        have W10 : Hid (Later w w10) := Lib.hid (WW.out.trans hb)
        have F10 := Lib.hid hs10
        have G10 := Lib.hid (FW.out.later hb)
        clear hb hg10 hr10 hs10
        go_wp2_with fail
        refine (l_eqIE _ _ m m m m F _ G10.out F10.out).mono ?_
        rintro e w11 ⟨rfl, hb⟩
        have W11 : Hid (Later w w11) := Lib.hid (W10.out.trans hb)
        clear hb
        go_wp2_with fail
        go_ret
        exact ⟨rfl, W11.out⟩
end Go.Proofs.Ytnmlkigpiaekjaa
