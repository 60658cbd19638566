/- Contracts of chapter 4: the blocks that are ranged over. -/
import Derived.RangeFuncNested
import Derived.RangeFuncBound
import Derived.RangeFuncCalls
import Derived.RangeFuncLeaves
import Derived.Shelf.Abstract
import Derived.Shelf.RegionOpen
import Derived.WalkKit
import Derived.OwnWalkIn
import Derived.TacticsInMore
import Derived.LoopNIn
import Derived.LoopIn
import Derived.Test.YtnmlkigpiaekjaaBkA
namespace Go.Proofs.Ytnmlkigpiaekjaa
open Go.RowKit Go.Shelf
attribute [local go_sem] Oper.semAt_some
set_option maxHeartbeats 4000000
set_option linter.unusedVariables false
set_option linter.unusedSimpArgs false
/-- a block's value -/
def scV (x : Sc) : Value := .agg #[.int .i64 x.n, .int .i64 x.f, .int .i64 x.l, .int .i64 x.s, .int .i64 x.e]
/-- the index behind the first k blocks -/
def bgK (L : List Sg) (F : List Int) (k : Nat) : Nat := if k < F.length then fstK F k else L.length
theorem endK_bg (L : List Sg) (F : List Int) (k : Nat) : endK L F k = bgK L F (k + 1) := rfl
theorem bgK_lt {L : List Sg} {F : List Int} {k : Nat} (h : k < F.length) : bgK L F k = fstK F k := by unfold bgK; rw [if_pos h]
/-- what has come when k rounds are over -/
def upto (L : List Sg) (F : List Int) (k : Nat) : List Sc := (List.range k).map (sec L F)
theorem upto_succ (L : List Sg) (F : List Int) (k : Nat) : upto L F (k + 1) = upto L F k ++ [sec L F k] := by simp [upto, List.range_succ]
theorem upto_len (L : List Sg) (F : List Int) (k : Nat) : (upto L F k).length = k := by simp [upto]
theorem upto_pre (L : List Sg) (F : List Int) (k m : Nat) (h : k ≤ m) : upto L F k <+: upto L F m := by
  unfold upto
  refine List.IsPrefix.map _ ?_
  refine ⟨(List.range (m - k)).map (k + ·), ?_⟩
  rw [← List.range_add]; congr 1; omega
theorem Later.trans' {a b c : World} (h : Later a b) (k : Below a.heap.size b c) : Later a c := Below.trans h k
theorem later_grows {w w' : World} (h : Later w w') (row : Option Nat) : w.grownBy w' row := ⟨h.os, h.tape, h.output, h.size, fun k hk _ => h.block k hk⟩
/-- the two boxes that the iterator reads, and what they lead to, in the world where it was made -/
structure Boxes (w : World) (Bf Bl : Nat) (a : Option Addr) (n cap : Nat) (L : List Sg) (A : Option Addr) (m capF : Nat) (F : List Int) : Prop where
  bf : w.cell? ⟨Bf, 0, none⟩ = some (.slice A m capF)
  bl : w.cell? ⟨Bl, 0, none⟩ = some (.slice a n cap)
  sg : Sgs w a n L
  sl : Sl w A m F
  cn : n ≤ cap
  cm : m ≤ capF
  ok : bkB L F = true
theorem Boxes.later {w w' : World} {Bf Bl : Nat} {a : Option Addr} {n cap : Nat} {L : List Sg} {A : Option Addr} {m capF : Nat} {F : List Int} (h : Boxes w Bf Bl a n cap L A m capF F) (k : Later w w') : Boxes w' Bf Bl a n cap L A m capF F :=
  ⟨by rw [k.cell (p := ⟨Bf, 0, none⟩) (cell_lt h.bf)]; exact h.bf, by rw [k.cell (p := ⟨Bl, 0, none⟩) (cell_lt h.bl)]; exact h.bl, h.sg.later k, h.sl.later k, h.cn, h.cm, h.ok⟩
theorem i_sectionsOf (a : Option Addr) (n cap : Nat) (A : Option Addr) (m capF : Nat) (w : World) :
    Calls Try.prog 106 #[.agg #[.slice a n cap], .slice A m capF] w fun e w' => e = .returned (.func (.func 120) #[] #[.pointer (some ⟨w.heap.size + 1, 0, none⟩), .pointer (some ⟨w.heap.size, 0, none⟩)]) ∧
      w' = (w.alloc (.cells #[.slice a n cap] 26)).alloc (.cells #[.slice A m capF] 55) := by
  go_enter Try.func106, Try.ntmps106
  go_wp2
  go_ret
  exact ⟨rfl, rfl⟩
set_option maxRecDepth 100000 in
theorem i_secs_in (Φ : Fence) (N : Nat) (hΦ : Φ.fn 120) (hro : Φ.round = none) (hN : 1 ≤ N) (l Bf Bl : Nat) (a : Option Addr) (n cap : Nat) (L : List Sg) (A : Option Addr) (m capF : Nat) (F : List Int) (w : World) (J Jx : List Sc → World → Prop) (W : World) (hBx : Boxes w Bf Bl a n cap L A m capF F)
    (hW : Later w W) (hJ : AbidesFrom W.heap.size J)
    (hY : ∀ pre x W1, J pre W1 → pre.length < m → YieldAt Φ (N - 1) Try.prog l #[scV x] W1 fun e W' =>
      (e = .returned (.bool true) ∧ J (pre ++ [x]) W' ∧ Below w.heap.size W1 W') ∨ (e = .returned (.bool false) ∧ Jx (pre ++ [x]) W')) (h0 : J [] W) :
    CallsIn Φ N Try.prog 120 #[.func (.yield l) #[] #[], .pointer (some ⟨Bf, 0, none⟩), .pointer (some ⟨Bl, 0, none⟩)] W fun e W' => (∃ v, e = .returned v) ∧
      ((∃ ys, ys = upto L F m ∧ J ys W') ∨ (∃ pre, pre <+: upto L F m ∧ Jx pre W')) := by
  have HX := Lib.hid hBx
  obtain ⟨hlay, hbk⟩ := bkB_lay hBx.ok
  have HBK := Lib.hid hbk
  have HL := Lib.hid hBx.sg.1
  have HM := Lib.hid hBx.sl.1
  have HO := Lib.hid ((layB_iff L).1 hlay).2.2.1
  have h24 : n ≤ 24 := by have := ((layB_iff L).1 hlay).2.1; rw [HL.out] at this; exact this
  have hm8 : 2 ≤ m ∧ m ≤ 8 := by have := (bkC_iff L F).1 hbk; rw [HM.out] at this; omega
  obtain ⟨hm2, hm8⟩ := hm8
  have HJ := Lib.hid hJ
  have HW0 := Lib.hid hW
  have c1 := (hBx.later hW).bf
  clear hBx hbk hJ hW
  refine callsIn_of_wp Try.func120 rfl hΦ ?_ hro
  simp only [Try.ntmps120, List.size_toArray, List.length_cons, List.length_nil, Nat.reduceAdd, Nat.reduceSub, Array.replicate_succ, Array.replicate_zero, List.push_toArray, List.append_toArray, List.nil_append, List.cons_append]
  gi_wp2
  clear c1
  gi_loopw [4, 13] (fun st i wr => ∃ k : Nat, k ≤ m ∧ i = .int .i64 k ∧ st = .int .i64 (upL L (bgK L F k)) ∧ J (upto L F k) wr ∧ Later w wr) (fun _ i _ => m - (intOf i).toNat)
  case atStart => exact ⟨0, by omega, rfl, by rw [bgK_lt (by rw [HM.out]; omega), fst_0 HBK.out, upL_0], h0, HW0.out⟩
  case round =>
    obtain ⟨k, hk, rfl, rfl, hj, hlw⟩ := hrel
    obtain ⟨V, rfl⟩ : ∃ V, V = wr := ⟨_, rfl⟩
    have HJ1 := Lib.hid hj
    have HW := Lib.hid hlw
    have hB := HX.out.later hlw
    have cf := hB.bf; have cl := hB.bl
    have hcn := hB.cn
    clear hj hlw
    by_cases hlt : k < m
    · obtain ⟨g1, g2, g3⟩ := blk_bd HBK.out k (by rw [HM.out]; exact hlt)
      rw [endK_bg, ← bgK_lt (L := L) (F := F) (by rw [HM.out]; exact hlt)] at g2
      rw [endK_bg, HL.out] at g3
      obtain ⟨bF, oF, rfl, ck⟩ := hB.sl.at k hlt
      rw [g1, ← bgK_lt (L := L) (F := F) (by rw [HM.out]; exact hlt)] at ck
      obtain ⟨b0, o0, rfl, hb0, _⟩ := hB.sg.at 0 (by omega)
      have HE : Hid (gx F (k + 1) = (bgK L F (k + 1) : Int) ∨ m ≤ k + 1) := Lib.hid (by
        by_cases hc : k + 1 < m
        · left; rw [bgK_lt (by rw [HM.out]; exact hc)]; exact (blk_bd HBK.out (k + 1) (by rw [HM.out]; exact hc)).1
        · right; omega)
      have HN : Hid (m ≤ k + 1 → bgK L F (k + 1) = n) := Lib.hid (fun h => by unfold bgK; rw [if_neg (by rw [HM.out]; omega), HL.out])
      have HSEC : Hid (scV (sec L F k) = .agg #[.int .i64 k, .int .i64 (bgK L F k), .int .i64 ((bgK L F (k + 1) : Int) - 1), .int .i64 (upL L (bgK L F k)), .int .i64 (upL L (bgK L F (k + 1)) - upL L (bgK L F k))]) := Lib.hid (by
        unfold scV sec stK lnK; rw [endK_bg, bgK_lt (L := L) (F := F) (k := k) (by rw [HM.out]; exact hlt)])
      have HUP := Lib.hid (upto_succ L F k)
      have HPL : Hid ((upto L F k).length = k) := Lib.hid (upto_len L F k)
      generalize he : bgK L F (k + 1) = e at *
      generalize hf : bgK L F k = f at *
      have HEQ := Lib.hid he
      clear he hf
      have hfc : 1 ≤ cap - f := by omega
      by_cases hk1 : k + 1 < m
      · obtain ⟨bF', oF', hbb, ck1⟩ := hB.sl.at (k + 1) hk1
        simp only [Option.some.injEq, Addr.mk.injEq, and_true] at hbb
        obtain ⟨rfl, rfl⟩ := hbb
        rw [show gx F (k + 1) = (e : Int) from HE.out.resolve_right (by omega)] at ck1
        have hkm : ((k : Int) + 1 < m) := by omega
        clear hB g1
        gi_wp2
        clear ck ck1 cf cl
        gi_loopw [8, 37] (fun ln i w2 => ∃ j g : Nat, g = f + j ∧ g ≤ e ∧ i = .int .i64 j ∧ ln = .int .i64 (upL L g - upL L f) ∧ Later V w2) (fun _ i _ => e - f - (intOf i).toNat)
        case atStart => exact ⟨0, f, rfl, by omega, rfl, by rw [Int.sub_self], Later.refl _⟩
        case round =>
          obtain ⟨w2, rfl⟩ : ∃ w2, w2 = wr := ⟨_, rfl⟩
          obtain ⟨j, g, hg, hge, rfl, rfl, hl2⟩ := hrel
          have H2 := Lib.hid hl2
          obtain ⟨_, _, bd1, bd2⟩ := up_bd L f (by rw [HL.out]; omega) (okB_le L L.length f (by rw [HL.out]; omega) HO.out)
          obtain ⟨_, _, bd3, bd4⟩ := up_bd L g (by rw [HL.out]; omega) (okB_le L L.length g (by rw [HL.out]; omega) HO.out)
          have bd5 := upL_mono L f g (by omega) (by rw [HL.out]; omega) HO.out
          by_cases hlt2 : g < e
          · obtain ⟨b', o', hbb, hb', hc⟩ := (HX.out.sg.later (HW.out.trans hl2)).at g (by omega)
            simp only [Option.some.injEq, Addr.mk.injEq, and_true] at hbb
            obtain ⟨rfl, rfl⟩ := hbb
            obtain ⟨c0, c1, c2, c3, c4, c5, c6⟩ := hc
            rw [show o0 + g * 7 = o0 + f * 7 + j * 7 by omega] at c0 c1 c2 c3 c4 c5 c6
            have hjl : j < e - f := by omega
            have HG := Lib.hid hg
            clear hg
            have hr := (sgB_iff _).1 (okB_at L L.length g (Nat.le_refl _) (by rw [HL.out]; omega) HO.out)
            have r1 := hr.2.1.1; have r2 := hr.2.1.2
            clear hr hl2
            gi_wp2
            go_roundw
            case rel => exact ⟨j + 1, g + 1, by rw [HG.out]; omega, by omega, by go_num, by rw [upL_succ L g (by rw [HL.out]; omega)]; go_num, (by repeat (first | (with_reducible exact Later.refl _) | (with_reducible exact Hid.out (by assumption)) | (with_reducible refine Later.alloc ?_ _) | (with_reducible refine Later.setCell ?_ (by simp; omega) _) | (with_reducible refine Later.setCell ?_ (by simp) _) | (with_reducible refine Later.drewN ?_ _) | (with_reducible refine Later.drew ?_) | (with_reducible refine Later.trans ?_ (Hid.out (by assumption)))))⟩
            case measure => simp [intOf]; omega
          · obtain rfl : g = e := by omega
            have HJ2 : Hid (J (upto L F k) w2) := Lib.hid (HJ.out _ V w2 none HJ1.out (later_grows hl2 none) (fun r h => by cases h))
            obtain ⟨fn, tmps, assign, body, hy, hR⟩ := hY (upto L F k) (sec L F k) w2 HJ2.out (by rw [HPL.out]; exact hlt)
            rw [HSEC.out] at hy
            have hjl : ¬ (j < g - f) := by omega
            clear hl2 hg
            gi_wp2
            refine hR.mono ?_
            rintro e3 W3 (⟨rfl, hJ3, hk3⟩ | ⟨rfl, hJx3⟩)
            · have H3 : Hid (J (upto L F (k + 1)) W3) := Lib.hid (by rw [HUP.out]; exact hJ3)
              have H4 : Hid (Later w W3) := Lib.hid ((HW.out.trans H2.out).trans' hk3)
              clear hJ3 hk3
              gi_wp2
              go_roundw
              case rel => exact ⟨k + 1, by omega, by go_num, by rw [HEQ.out]; go_num, H3.out, H4.out⟩
              case measure => simp [intOf]; omega
            · have H3 : Hid (∃ pre, pre <+: upto L F m ∧ Jx pre W3) := Lib.hid ⟨upto L F (k + 1), upto_pre L F (k + 1) m (by omega), by rw [HUP.out]; exact hJx3⟩
              clear hJx3
              gi_wp2
              refine bodyPost_ret (results_none rfl _ _ _) rfl ?_
              exact ⟨⟨_, rfl⟩, .inr H3.out⟩
      · have hkm : ¬ ((k : Int) + 1 < m) := by omega
        have hen := HN.out (by omega)
        subst hen
        clear hB g1
        gi_wp2
        clear ck cf cl
        gi_loopw [8, 37] (fun ln i w2 => ∃ j g : Nat, g = f + j ∧ g ≤ e ∧ i = .int .i64 j ∧ ln = .int .i64 (upL L g - upL L f) ∧ Later V w2) (fun _ i _ => e - f - (intOf i).toNat)
        case atStart => exact ⟨0, f, rfl, by omega, rfl, by rw [Int.sub_self], Later.refl _⟩
        case round =>
          obtain ⟨w2, rfl⟩ : ∃ w2, w2 = wr := ⟨_, rfl⟩
          obtain ⟨j, g, hg, hge, rfl, rfl, hl2⟩ := hrel
          have H2 := Lib.hid hl2
          obtain ⟨_, _, bd1, bd2⟩ := up_bd L f (by rw [HL.out]; omega) (okB_le L L.length f (by rw [HL.out]; omega) HO.out)
          obtain ⟨_, _, bd3, bd4⟩ := up_bd L g (by rw [HL.out]; omega) (okB_le L L.length g (by rw [HL.out]; omega) HO.out)
          have bd5 := upL_mono L f g (by omega) (by rw [HL.out]; omega) HO.out
          by_cases hlt2 : g < e
          · obtain ⟨b', o', hbb, hb', hc⟩ := (HX.out.sg.later (HW.out.trans hl2)).at g (by omega)
            simp only [Option.some.injEq, Addr.mk.injEq, and_true] at hbb
            obtain ⟨rfl, rfl⟩ := hbb
            obtain ⟨c0, c1, c2, c3, c4, c5, c6⟩ := hc
            rw [show o0 + g * 7 = o0 + f * 7 + j * 7 by omega] at c0 c1 c2 c3 c4 c5 c6
            have hjl : j < e - f := by omega
            have HG := Lib.hid hg
            clear hg
            have hr := (sgB_iff _).1 (okB_at L L.length g (Nat.le_refl _) (by rw [HL.out]; omega) HO.out)
            have r1 := hr.2.1.1; have r2 := hr.2.1.2
            clear hr hl2
            gi_wp2
            go_roundw
            case rel => exact ⟨j + 1, g + 1, by rw [HG.out]; omega, by omega, by go_num, by rw [upL_succ L g (by rw [HL.out]; omega)]; go_num, (by repeat (first | (with_reducible exact Later.refl _) | (with_reducible exact Hid.out (by assumption)) | (with_reducible refine Later.alloc ?_ _) | (with_reducible refine Later.setCell ?_ (by simp; omega) _) | (with_reducible refine Later.setCell ?_ (by simp) _) | (with_reducible refine Later.drewN ?_ _) | (with_reducible refine Later.drew ?_) | (with_reducible refine Later.trans ?_ (Hid.out (by assumption)))))⟩
            case measure => simp [intOf]; omega
          · obtain rfl : g = e := by omega
            have HJ2 : Hid (J (upto L F k) w2) := Lib.hid (HJ.out _ V w2 none HJ1.out (later_grows hl2 none) (fun r h => by cases h))
            obtain ⟨fn, tmps, assign, body, hy, hR⟩ := hY (upto L F k) (sec L F k) w2 HJ2.out (by rw [HPL.out]; exact hlt)
            rw [HSEC.out] at hy
            have hjl : ¬ (j < g - f) := by omega
            clear hl2 hg
            gi_wp2
            refine hR.mono ?_
            rintro e3 W3 (⟨rfl, hJ3, hk3⟩ | ⟨rfl, hJx3⟩)
            · have H3 : Hid (J (upto L F (k + 1)) W3) := Lib.hid (by rw [HUP.out]; exact hJ3)
              have H4 : Hid (Later w W3) := Lib.hid ((HW.out.trans H2.out).trans' hk3)
              clear hJ3 hk3
              gi_wp2
              go_roundw
              case rel => exact ⟨k + 1, by omega, by go_num, by rw [HEQ.out]; go_num, H3.out, H4.out⟩
              case measure => simp [intOf]; omega
            · have H3 : Hid (∃ pre, pre <+: upto L F m ∧ Jx pre W3) := Lib.hid ⟨upto L F (k + 1), upto_pre L F (k + 1) m (by omega), by rw [HUP.out]; exact hJx3⟩
              clear hJx3
              gi_wp2
              refine bodyPost_ret (results_none rfl _ _ _) rfl ?_
              exact ⟨⟨_, rfl⟩, .inr H3.out⟩
    · obtain rfl : k = m := by omega
      have HE := Lib.hid HJ1.out
      gi_wp2
      go_end0
      exact ⟨⟨_, rfl⟩, .inl ⟨_, rfl, HJ1.out⟩⟩
/-- the iterator's contract -/
theorem i_secs_stops (Φ : Fence) (N : Nat) (hΦ : Φ.fn 120) (hro : Φ.round = none) (hN : 1 ≤ N) (Bf Bl : Nat) (a : Option Addr) (n cap : Nat) (L : List Sg) (A : Option Addr) (m capF : Nat) (F : List Int) (w : World) (hBx : Boxes w Bf Bl a n cap L A m capF F) :
    SeqStopsK Φ N Try.prog 120 #[.pointer (some ⟨Bf, 0, none⟩), .pointer (some ⟨Bl, 0, none⟩)] (fun x : Sc => #[.agg #[.int .i64 x.n, .int .i64 x.f, .int .i64 x.l, .int .i64 x.s, .int .i64 x.e]]) (Below w.heap.size) (fun ys => ys = upto L F m) (fun pre => pre <+: upto L F m) m w :=
  fun l J Jx W hW hJ _ hY h0 => i_secs_in Φ N hΦ hro hN l Bf Bl a n cap L A m capF F w J Jx W hBx hW hJ hY h0
end Go.Proofs.Ytnmlkigpiaekjaa
