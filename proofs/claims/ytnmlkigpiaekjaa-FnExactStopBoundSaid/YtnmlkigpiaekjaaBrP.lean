/- Contracts of chapter 7: the bounds of the energies with which a train may enter a block, of the program. -/
import Derived.Test.YtnmlkigpiaekjaaBrO
import Derived.Test.YtnmlkigpiaekjaaEnA
import Derived.Test.YtnmlkigpiaekjaaMarkS
import Derived.Deep.RegionWith
namespace Go.Proofs.Ytnmlkigpiaekjaa
open Go.RowKit
set_option maxHeartbeats 4000000
set_option linter.unusedVariables false
set_option linter.unusedSimpArgs false
/-- the boxes of the walk: the layout, the block, the result, the bounds, the closure's sum, the sum -/
structure EbS (w : World) (B g S : Nat) (a : Option Addr) (n cap : Nat) (L : List Sg) (v : List Value) (lo hi p q x y : Int) (W : World) : Prop where
  l : Fr w.heap.size [.slice a n cap] W
  b : Fr (w.heap.size + 1) v W
  r : Fr (w.heap.size + 1 + 1) [.int .i64 0, .int .i64 0] W
  B' : Fr B [.int .i64 lo, .int .i64 hi] W
  g' : Fr g [.int .i64 p, .int .i64 q] W
  s : Fr S [.int .i64 x, .int .i64 y] W
  sg : Sgs W a n L
  lt : Later w W
/-- the order of the blocks -/
def EbO (w : World) (B g S : Nat) (a : Option Addr) : Prop := w.heap.size + 1 + 1 < B ∧ B < g ∧ g < S ∧ ∀ z, a = some z → z.block < w.heap.size
theorem EbS.later {w : World} {B g S : Nat} {a : Option Addr} {n cap : Nat} {L : List Sg} {v : List Value} {lo hi p q x y : Int} {W W' : World} (h : EbS w B g S a n cap L v lo hi p q x y W) (k : Later W W') : EbS w B g S a n cap L v lo hi p q x y W' :=
  ⟨fr_later h.l k, fr_later h.b k, fr_later h.r k, fr_later h.B' k, fr_later h.g' k, fr_later h.s k, h.sg.later k, h.lt.trans k⟩
theorem EbS.closure {w : World} {B g S : Nat} {a : Option Addr} {n cap : Nat} {L : List Sg} {v : List Value} {lo hi p q x y p' q' : Int} {W W' : World} (h : EbS w B g S a n cap L v lo hi p q x y W) (o : EbO w B g S a)
    (F : Fr g [.int .i64 p', .int .i64 q'] W') (k : W.grownBy W' (some g)) : EbS w B g S a n cap L v lo hi p' q' x y W' := by
  obtain ⟨o1, o2, o3, o4⟩ := o
  have ne : ∀ m, m ≠ g → (some g : Option Nat) ≠ some m := fun m hm e => hm (Option.some.inj e).symm
  exact ⟨fr_kept h.l k (ne _ (by omega)), fr_kept h.b k (ne _ (by omega)), fr_kept h.r k (ne _ (by omega)), fr_kept h.B' k (ne _ (by omega)), F, fr_kept h.s k (ne _ (by omega)),
    sgs_kept h.sg k (fun z e => ne _ (by have := o4 z e; omega)), later_kept h.lt k (fun j e => by cases e; omega)⟩
theorem EbS.setS {w : World} {B g S : Nat} {a : Option Addr} {n cap : Nat} {L : List Sg} {v : List Value} {lo hi p q x y : Int} {W : World} (h : EbS w B g S a n cap L v lo hi p q x y W) (o : EbO w B g S a) (x' y' : Int) :
    EbS w B g S a n cap L v lo hi p q x' y' ((W.setCell ⟨S, 0, none⟩ (.int .i64 x')).setCell ⟨S, 1, none⟩ (.int .i64 y')) := by
  obtain ⟨o1, o2, o3, o4⟩ := o
  have ne : ∀ m, m ≠ S → (some S : Option Nat) ≠ some m := fun m hm e => hm (Option.some.inj e).symm
  have k : W.grownBy ((W.setCell ⟨S, 0, none⟩ (.int .i64 x')).setCell ⟨S, 1, none⟩ (.int .i64 y')) (some S) := grown_set1 (grown_set W S 0 _) 1 _
  exact ⟨fr_kept h.l k (ne _ (by omega)), fr_kept h.b k (ne _ (by omega)), fr_kept h.r k (ne _ (by omega)), fr_kept h.B' k (ne _ (by omega)), fr_kept h.g' k (ne _ (by omega)), fr_set (fr_set h.s 0 _) 1 _,
    sgs_kept h.sg k (fun z e => ne _ (by have := o4 z e; omega)), later_kept h.lt k (fun j e => by cases e; omega)⟩
theorem EbS.setB {w : World} {B g S : Nat} {a : Option Addr} {n cap : Nat} {L : List Sg} {v : List Value} {lo hi p q x y : Int} {W : World} (h : EbS w B g S a n cap L v lo hi p q x y W) (o : EbO w B g S a) (x' y' : Int) :
    EbS w B g S a n cap L v x' y' p q x y ((W.setCell ⟨B, 0, none⟩ (.int .i64 x')).setCell ⟨B, 1, none⟩ (.int .i64 y')) := by
  obtain ⟨o1, o2, o3, o4⟩ := o
  have ne : ∀ m, m ≠ B → (some B : Option Nat) ≠ some m := fun m hm e => hm (Option.some.inj e).symm
  have k : W.grownBy ((W.setCell ⟨B, 0, none⟩ (.int .i64 x')).setCell ⟨B, 1, none⟩ (.int .i64 y')) (some B) := grown_set1 (grown_set W B 0 _) 1 _
  exact ⟨fr_kept h.l k (ne _ (by omega)), fr_kept h.b k (ne _ (by omega)), fr_kept h.r k (ne _ (by omega)), fr_set (fr_set h.B' 0 _) 1 _, fr_kept h.g' k (ne _ (by omega)), fr_kept h.s k (ne _ (by omega)),
    sgs_kept h.sg k (fun z e => ne _ (by have := o4 z e; omega)), later_kept h.lt k (fun j e => by cases e; omega)⟩
theorem gh_slow {L : List Sg} {F : List Int} {b f h c n : Nat} {y : Sg} {R : List Sg} (B : Bl L F b f h c n y R) (hs : slowB L F b = true) :
    ghE y = 0 ∧ 1 ≤ ghV y ∧ ghV y ≤ 10000000000 ∧ max (ndN R c) (-clL R c) = loK L F b ∧ min (hgK R c) (ghV y - clH R c) = hiK L F b ∧ okK L F b = decide (loK L F b ≤ hiK L F b) := by
  have h1 := ndN_end R c
  have h2 := hgK_end R c
  have hw := wk_bd y B.ysg
  have hlo : max (ndN R c) (-clL R c) = loK L F b := by unfold loK; rw [← B.Re, ← B.cn]; omega
  have hok : okK L F b = decide (loK L F b ≤ hiK L F b) := by unfold okK; rw [hs]; simp
  unfold slowB at hs
  rw [← B.ye] at hs
  rcases B.yk with k1 | k1
  · have e1 : ghE y = 0 := by unfold ghE; rw [if_pos k1]
    have e2 : ghV y = 10000000000 := by unfold ghV; rw [if_pos k1]
    have hb : brk y.k = false := by rw [brk_no]; omega
    refine ⟨e1, by omega, by omega, hlo, ?_, hok⟩
    unfold hiK
    rw [← B.ye, hb, ← B.Re, ← B.cn, e2]
    simp
    omega
  · have k0 : y.k ≠ 1 := by omega
    have hb : brk y.k = true := by rw [brk_iff]; exact k1
    rw [hb] at hs
    simp at hs
    have eb : brE y = 0 := by unfold brE; rw [if_pos B.ysg, if_pos hb]
    have es : slE y = 0 := by unfold slE; rw [if_pos eb, if_pos hs]
    have e1 : ghE y = 0 := by unfold ghE; rw [if_neg k0, es]
    have e2 : ghV y = min (wkL y) 10000000000 := by unfold ghV gsV; rw [if_neg k0, es]; rfl
    refine ⟨e1, by omega, by omega, hlo, ?_, hok⟩
    unfold hiK
    rw [← B.ye, if_pos hb, ← B.Re, ← B.cn, e2]
    omega
theorem gh_not {L : List Sg} {F : List Int} {b f h c n : Nat} {y : Sg} {R : List Sg} (B : Bl L F b f h c n y R) (hs : slowB L F b = false) : ghE y = 5 ∧ okK L F b = false := by
  have hok : okK L F b = false := by unfold okK; rw [hs]; rfl
  unfold slowB at hs
  rw [← B.ye] at hs
  simp at hs
  obtain ⟨hb, hs⟩ := hs
  have k0 : y.k ≠ 1 := by rw [brk_iff] at hb; omega
  have eb : brE y = 0 := by unfold brE; rw [if_pos B.ysg, if_pos hb]
  have es : slE y = 5 := by unfold slE; rw [if_pos eb, if_neg (by omega)]
  exact ⟨by unfold ghE; rw [if_neg k0, es], hok⟩
/-- the code of the bounds of a block -/
def kE (L : List Sg) (F : List Int) (b : Nat) : Int := if okK L F b = true then 0 else 5
set_option maxRecDepth 100000 in
theorem i_entryBounds (a : Option Addr) (n cap : Nat) (L : List Sg) (F : List Int) (b : Nat) (w : World) (hs : Sgs w a n L) (hcn : n ≤ cap) (hv : layB L = true) (hk : bkC L F = true) (hb : b < F.length) :
    Calls Try.prog 87 #[.agg #[.slice a n cap], scV (sec L F b)] w fun e w' => e = .returned (.tuple #[.agg #[.int .i64 (okV (kE L F b) (loK L F b)), .int .i64 (okV (kE L F b) (hiK L F b))], .int .i64 (kE L F b)]) ∧ Later w w' := by
  obtain ⟨f, h, c, y, R, hB⟩ := bl_of hv hk hb hs.1
  have HSC : scV (sec L F b) = .agg #[.int .i64 b, .int .i64 f, .int .i64 h, .int .i64 (stK L F b), .int .i64 (lnK L F b)] := by
    unfold scV sec; rw [hB.end', hB.fe]; simp
  rw [HSC]
  have HS := Lib.hid hs; have HB := Lib.hid hB
  have hfh := hB.le; have hhn := hB.lt; have h24 := hB.n24
  have hch : c = h - f := hB.ce
  generalize stK L F b = st
  generalize lnK L F b = ln
  have HA : Hid (∀ z, a = some z → z.block < w.heap.size) := Lib.hid (fun z e => by obtain ⟨b', o', e', hb', _⟩ := hs.at 0 (by omega); rw [e'] at e; cases e; exact hb')
  clear hs hB HSC hv hk
  go_enter Try.func87, Try.ntmps87
  go_upto_region 1 with (fail)
  refine into (fun W => Fr w.heap.size [.slice a n cap] W ∧ Fr (w.heap.size + 1) [.int .i64 b, .int .i64 f, .int .i64 h, .int .i64 st, .int .i64 ln] W ∧ Fr (w.heap.size + 1 + 1) [.int .i64 0, .int .i64 0] W ∧ Later w W) ⟨?_, ?_, ?_, (by repeat (first | (with_reducible exact Later.refl _) | (with_reducible exact Hid.out (by assumption)) | (with_reducible refine Later.alloc ?_ _) | (with_reducible refine Later.setCell ?_ (by simp; omega) _) | (with_reducible refine Later.setCell ?_ (by simp) _) | (with_reducible refine Later.drewN ?_ _) | (with_reducible refine Later.drew ?_) | (with_reducible refine Later.trans ?_ (Hid.out (by assumption)))))⟩ ?_
  · exact fr_alloc (X := w) (l := [.slice a n cap]) (T := 26) (Later.alloc (Later.alloc (Later.refl _) _) _)
  · have F1 := fr_alloc (X := w.alloc (.cells [Value.slice a n cap].toArray 26)) (l := [.int .i64 b, .int .i64 f, .int .i64 h, .int .i64 st, .int .i64 ln]) (T := 98) (Later.alloc (Later.refl _) (.cells [Value.int .i64 0, .int .i64 0].toArray 28))
    simp only [World.size_alloc] at F1
    exact F1
  · have F1 := fr_alloc (X := (w.alloc (.cells [Value.slice a n cap].toArray 26)).alloc (.cells [Value.int .i64 b, .int .i64 f, .int .i64 h, .int .i64 st, .int .i64 ln].toArray 98)) (l := [.int .i64 0, .int .i64 0]) (T := 28) (Later.refl _)
    simp only [World.size_alloc] at F1
    exact F1
  rintro W ⟨hl, hbk, hr, hlt⟩
  have HL := Lib.hid hl; have HBK := Lib.hid hbk; have HR := Lib.hid hr; have HLT := Lib.hid hlt
  have hzr := hr.lt
  clear hl hbk hr hlt
  go_wp2_with fail
  refine (i_coasting 0 0 _).mono ?_
  rintro e w3 ⟨g, rfl, hg, hF, hb3⟩
  have hgB : W.heap.size < g := by simp only [World.size_alloc] at hg; omega
  have hgS : g < w3.heap.size := hF.lt
  have HBX : Hid (Fr W.heap.size [.int .i64 0, .int .i64 10000000000] w3) := Lib.hid (fr_alloc hb3)
  have H3 : Hid (Later W w3) := Lib.hid (Later.trans (by repeat (first | (with_reducible exact Later.refl _) | (with_reducible exact Hid.out (by assumption)) | (with_reducible refine Later.alloc ?_ _) | (with_reducible refine Later.setCell ?_ (by simp; omega) _) | (with_reducible refine Later.setCell ?_ (by simp) _) | (with_reducible refine Later.drewN ?_ _) | (with_reducible refine Later.drew ?_) | (with_reducible refine Later.trans ?_ (Hid.out (by assumption))))) hb3)
  have F3 := Lib.hid hF
  have HO : Hid (EbO w W.heap.size g w3.heap.size a) := Lib.hid ⟨by omega, hgB, hgS, HA.out⟩
  obtain ⟨u1, u2, u3, u4, u5, _⟩ := Fr.o5 (fr_later HBK.out H3.out)
  obtain ⟨u6, _⟩ := Fr.o1 (fr_later HL.out H3.out)
  have hz1 : w.heap.size + 1 < w3.heap.size := by omega
  have hz0 : w.heap.size < w3.heap.size := by omega
  obtain ⟨b0, o0, rfl, hb0, _⟩ := HS.out.at 0 (by omega)
  have hfc : 1 ≤ cap - f := by omega
  clear hF hb3 hg
  unfold sumF
  go_wp2_with fail
  have hn0 : ((h : Int) - f).toNat = c := by omega
  have hcl : ((c : Nat) : Int) = (h : Int) - f := by omega
  go_loopw [24] (fun i wr => ∃ k : Nat, k ≤ c ∧ i = .int .i64 k ∧ EbS w W.heap.size g w3.heap.size (some ⟨b0, o0, none⟩) n cap L [.int .i64 b, .int .i64 f, .int .i64 h, .int .i64 st, .int .i64 ln] (ndN R k) (hgK R k) (clL R k) (clH R k) (clL R k) (clH R k) wr) (fun i _ => c - (intOf i).toNat)
  case atStart => exact ⟨0, by omega, rfl, fr_later HL.out (H3.out.trans (by repeat (first | (with_reducible exact Later.refl _) | (with_reducible exact Hid.out (by assumption)) | (with_reducible refine Later.alloc ?_ _) | (with_reducible refine Later.setCell ?_ (by simp; omega) _) | (with_reducible refine Later.setCell ?_ (by simp) _) | (with_reducible refine Later.drewN ?_ _) | (with_reducible refine Later.drew ?_) | (with_reducible refine Later.trans ?_ (Hid.out (by assumption)))))), fr_later HBK.out (H3.out.trans (by repeat (first | (with_reducible exact Later.refl _) | (with_reducible exact Hid.out (by assumption)) | (with_reducible refine Later.alloc ?_ _) | (with_reducible refine Later.setCell ?_ (by simp; omega) _) | (with_reducible refine Later.setCell ?_ (by simp) _) | (with_reducible refine Later.drewN ?_ _) | (with_reducible refine Later.drew ?_) | (with_reducible refine Later.trans ?_ (Hid.out (by assumption)))))), fr_later HR.out (H3.out.trans (by repeat (first | (with_reducible exact Later.refl _) | (with_reducible exact Hid.out (by assumption)) | (with_reducible refine Later.alloc ?_ _) | (with_reducible refine Later.setCell ?_ (by simp; omega) _) | (with_reducible refine Later.setCell ?_ (by simp) _) | (with_reducible refine Later.drewN ?_ _) | (with_reducible refine Later.drew ?_) | (with_reducible refine Later.trans ?_ (Hid.out (by assumption)))))), fr_later HBX.out (by repeat (first | (with_reducible exact Later.refl _) | (with_reducible exact Hid.out (by assumption)) | (with_reducible refine Later.alloc ?_ _) | (with_reducible refine Later.setCell ?_ (by simp; omega) _) | (with_reducible refine Later.setCell ?_ (by simp) _) | (with_reducible refine Later.drewN ?_ _) | (with_reducible refine Later.drew ?_) | (with_reducible refine Later.trans ?_ (Hid.out (by assumption))))), by rw [clL_0, clH_0]; exact fr_later F3.out (by repeat (first | (with_reducible exact Later.refl _) | (with_reducible exact Hid.out (by assumption)) | (with_reducible refine Later.alloc ?_ _) | (with_reducible refine Later.setCell ?_ (by simp; omega) _) | (with_reducible refine Later.setCell ?_ (by simp) _) | (with_reducible refine Later.drewN ?_ _) | (with_reducible refine Later.drew ?_) | (with_reducible refine Later.trans ?_ (Hid.out (by assumption))))), by rw [clL_0, clH_0]; exact fr_alloc (Later.refl _), HS.out.later (HLT.out.trans (H3.out.trans (by repeat (first | (with_reducible exact Later.refl _) | (with_reducible exact Hid.out (by assumption)) | (with_reducible refine Later.alloc ?_ _) | (with_reducible refine Later.setCell ?_ (by simp; omega) _) | (with_reducible refine Later.setCell ?_ (by simp) _) | (with_reducible refine Later.drewN ?_ _) | (with_reducible refine Later.drew ?_) | (with_reducible refine Later.trans ?_ (Hid.out (by assumption))))))), HLT.out.trans (H3.out.trans (by repeat (first | (with_reducible exact Later.refl _) | (with_reducible exact Hid.out (by assumption)) | (with_reducible refine Later.alloc ?_ _) | (with_reducible refine Later.setCell ?_ (by simp; omega) _) | (with_reducible refine Later.setCell ?_ (by simp) _) | (with_reducible refine Later.drewN ?_ _) | (with_reducible refine Later.drew ?_) | (with_reducible refine Later.trans ?_ (Hid.out (by assumption))))))⟩
  case round =>
    clear u1 u2 u3 u4 u5 u6
    obtain ⟨k, hk, rfl, hE⟩ := hrel
    have HE := Lib.hid hE
    have zs := hE.s.lt
    by_cases hlt : k < c
    · have hseg : sgB (sx R k) = true := okB_at R R.length k (Nat.le_refl _) (by rw [HB.out.Rl]; exact hlt) HB.out.Rok
      obtain ⟨d1, d2, d3⟩ := cl_bd R HB.out.Rok k (by rw [HB.out.Rl]; exact hk)
      obtain ⟨d4, d5, d6⟩ := cl_bd R HB.out.Rok (k + 1) (by rw [HB.out.Rl]; exact hlt)
      obtain ⟨d7, d8⟩ := ndN_bd R HB.out.Rok k (by rw [HB.out.Rl]; exact hk)
      have d9 := hgK_ge R HB.out.Rok k (by rw [HB.out.Rl]; exact hk)
      have d10 := hgK_le R k
      obtain ⟨X, hX⟩ : ∃ X, X = clL R (k + 1) := ⟨_, rfl⟩
      obtain ⟨Y, hY⟩ : ∃ Y, Y = clH R (k + 1) := ⟨_, rfl⟩
      have q1 : clL R k + chL (sx R k) = X := by rw [hX, clL_succ R k (by rw [HB.out.Rl]; exact hlt)]
      have q2 : clH R k + chH (sx R k) = Y := by rw [hY, clH_succ R k (by rw [HB.out.Rl]; exact hlt)]
      have HX := Lib.hid hX; have HY := Lib.hid hY
      rw [← hX] at d4 d5; rw [← hY] at d5 d6
      have HN : Hid (ndN R (k + 1) = max (ndN R k) (-X)) := Lib.hid (by rw [hX]; exact ndN_succ R k)
      have HG : Hid (hgK R (k + 1) = min (hgK R k) (10000000000 - Y)) := Lib.hid (by rw [hY]; exact hgK_succ R k)
      have HC1 := fun w => i_energiesBefore X Y 10000000000 w (by omega) (by omega) (by omega) (by omega) (by omega) (by omega)
      have HC2 := fun w => i_common (ndN R k) (hgK R k) (-X) (10000000000 - Y) w (by omega) (by omega) (by omega) (by omega) (by omega) (by omega) (by omega) (by omega)
      rw [← HN.out, ← HG.out] at HC2
      have b1 : -1000000000000 ≤ clL R k := by omega
      have b2 : clL R k ≤ 1000000000000 := by omega
      have b3 : -1000000000000 ≤ clH R k := by omega
      have b4 : clH R k ≤ 1000000000000 := by omega
      clear d1 d2 d3 d4 d5 d6 d7 d8 d9 d10 hX hY
      obtain ⟨b', o', hbb, hb', hc7⟩ := hE.sg.at (f + k) (by omega)
      simp only [Option.some.injEq, Addr.mk.injEq, and_true] at hbb
      obtain ⟨rfl, rfl⟩ := hbb
      obtain ⟨c0, c1, c2, c3, c4, c5, c6⟩ := hc7
      rw [show o0 + (f + k) * 7 = o0 + f * 7 + k * 7 by omega, ← HB.out.Rat k hlt] at c0 c1 c2 c3 c4 c5 c6
      have hlt2 : (k : Int) < (h : Int) - f := by omega
      have hlt3 : k < h - f := by omega
      clear hE
      go_wp2_with fail
      refine (i_coasting1 (sx R k) g (clL R k) (clH R k) _ hseg (fr_later HE.out.g' (by repeat (first | (with_reducible exact Later.refl _) | (with_reducible exact Hid.out (by assumption)) | (with_reducible refine Later.alloc ?_ _) | (with_reducible refine Later.setCell ?_ (by simp; omega) _) | (with_reducible refine Later.setCell ?_ (by simp) _) | (with_reducible refine Later.drewN ?_ _) | (with_reducible refine Later.drew ?_) | (with_reducible refine Later.trans ?_ (Hid.out (by assumption)))))) b1 b2 b3 b4).mono ?_
      rw [q1, q2]
      rintro e w5 ⟨rfl, hF5, hg5⟩
      have M5 : Hid (EbS w W.heap.size g w3.heap.size (some ⟨b0, o0, none⟩) n cap L [.int .i64 b, .int .i64 f, .int .i64 h, .int .i64 st, .int .i64 ln] (ndN R k) (hgK R k) (X) (Y) (clL R k) (clH R k) w5) := Lib.hid ((HE.out.later (by repeat (first | (with_reducible exact Later.refl _) | (with_reducible exact Hid.out (by assumption)) | (with_reducible refine Later.alloc ?_ _) | (with_reducible refine Later.setCell ?_ (by simp; omega) _) | (with_reducible refine Later.setCell ?_ (by simp) _) | (with_reducible refine Later.drewN ?_ _) | (with_reducible refine Later.drew ?_) | (with_reducible refine Later.trans ?_ (Hid.out (by assumption)))))).closure HO.out hF5 hg5)
      obtain ⟨n1, n2, n3, n4⟩ := Fr.o2 M5.out.s
      have zs := M5.out.s.lt
      clear hF5 hg5 c0 c1 c2 c3 c4 c5 c6 HE q1 q2
      go_wp2_with fail
      refine into (fun W' => EbS w W.heap.size g w3.heap.size (some ⟨b0, o0, none⟩) n cap L [.int .i64 b, .int .i64 f, .int .i64 h, .int .i64 st, .int .i64 ln] (ndN R k) (hgK R k) (X) (Y) (X) (Y) W') (by first | exact M5.out.setS HO.out X Y) ?_
      clear n1 n2 n3 n4 zs M5
      intro W6 hE6
      have M := Lib.hid hE6
      obtain ⟨m1, m2, m3, m4⟩ := Fr.o2 hE6.B'
      obtain ⟨n1, n2, n3, n4⟩ := Fr.o2 hE6.s
      have zs := hE6.s.lt
      have nBS : ¬ W.heap.size = w3.heap.size := by omega
      have nSB : ¬ w3.heap.size = W.heap.size := by omega
      clear hE6
      go_region_with (first
        | (go_at_call 103; refine (HC1 _).mono ?_; rintro e w7 ⟨rfl, hb⟩; (first | (have M := Lib.hid (M.out.later hb)) | (have M := Lib.hid (M.out.later (later_undrew hb))) | (have M := Lib.hid (M.out.later (later_undrewN hb)))); obtain ⟨m1, m2, m3, m4⟩ := Fr.o2 M.out.B'; obtain ⟨n1, n2, n3, n4⟩ := Fr.o2 M.out.s; have zs := M.out.s.lt; clear hb)
        | (go_at_call 102; refine (HC2 _).mono ?_; rintro e w7 ⟨rfl, hb⟩; (first | (have M := Lib.hid (M.out.later hb)) | (have M := Lib.hid (M.out.later (later_undrew hb))) | (have M := Lib.hid (M.out.later (later_undrewN hb)))); obtain ⟨m1, m2, m3, m4⟩ := Fr.o2 M.out.B'; obtain ⟨n1, n2, n3, n4⟩ := Fr.o2 M.out.s; have zs := M.out.s.lt; clear hb))
      all_goals
        go_wp2_with fail
        go_roundw
        case rel =>
          refine ⟨k + 1, by omega, by go_num, ?_⟩
          rw [← HX.out, ← HY.out]
          exact M.out.setB HO.out _ _
        case measure => simp [intOf]; omega
    · obtain rfl : c = k := by omega
      have M := Lib.hid hE
      obtain ⟨b', o', hbb, hb', hc7⟩ := hE.sg.at h hhn
      simp only [Option.some.injEq, Addr.mk.injEq, and_true] at hbb
      obtain ⟨rfl, rfl⟩ := hbb
      obtain ⟨c0, c1, c2, c3, c4, c5, c6⟩ := hc7
      rw [show sx L h = y by rw [HB.out.ye, HB.out.he]; rfl] at c0 c1 c2 c3 c4 c5 c6
      obtain ⟨u1, u2, u3, u4, u5, _⟩ := Fr.o5 hE.b
      obtain ⟨u6, _⟩ := Fr.o1 hE.l
      obtain ⟨r1, r2, r3, r4⟩ := Fr.o2 hE.r
      have zb := hE.b.lt
      have zl := hE.l.lt
      have zr := hE.r.lt
      have hltn : ¬ (c < h - f) := by omega
      have hltn2 : ¬ ((c : Int) < (h : Int) - f) := by omega
      have dc : c ≤ 24 := by omega
      clear hE hch hcl hn0
      cases hsl : slowB L F b
      · obtain ⟨g1, g2⟩ := gh_not HB.out hsl
        have ek : Hid (kE L F b = 5) := Lib.hid (by unfold kE; rw [g2]; rfl)
        have HG0 := fun w => i_greatestHeld y w
        rw [g1] at HG0
        generalize ghV y = m at *
        go_wp2_with (go_at_call 104; refine (HG0 _).mono ?_; rintro e w7 ⟨rfl, hb⟩; have M := Lib.hid (M.out.later (Later.trans (by repeat (first | (with_reducible exact Later.refl _) | (with_reducible exact Hid.out (by assumption)) | (with_reducible refine Later.alloc ?_ _) | (with_reducible refine Later.setCell ?_ (by simp; omega) _) | (with_reducible refine Later.setCell ?_ (by simp) _) | (with_reducible refine Later.drewN ?_ _) | (with_reducible refine Later.drew ?_) | (with_reducible refine Later.trans ?_ (Hid.out (by assumption))))) hb)); clear hb; obtain ⟨r1, r2, r3, r4⟩ := Fr.o2 M.out.r; have zr := M.out.r.lt)
        refine bodyPost_ret (v := .tuple #[.agg #[.int .i64 0, .int .i64 0], .int .i64 5]) (by simp [results, Try.results87, go_sem, *]) rfl ⟨by rw [ek.out]; rfl, (by repeat (first | exact M.out.lt | refine Later.drew ?_ | refine Later.drewN ?_ _ | refine Later.setCell ?_ (by simp <;> omega) _))⟩
      · obtain ⟨g1, g2, g3, g4, g5, g6⟩ := gh_slow HB.out hsl
        have HG0 := fun w => i_greatestHeld y w
        rw [g1] at HG0
        obtain ⟨d1, d2, d3⟩ := cl_bd R HB.out.Rok c (by rw [HB.out.Rl]; exact hk)
        obtain ⟨d7, d8⟩ := ndN_bd R HB.out.Rok c (by rw [HB.out.Rl]; exact hk)
        have d9 := hgK_ge R HB.out.Rok c (by rw [HB.out.Rl]; exact hk)
        have d10 := hgK_le R c
        have ek : Hid (kE L F b = if loK L F b ≤ hiK L F b then 0 else 5) := Lib.hid (by unfold kE; rw [g6]; simp)
        generalize ghV y = m at *
        have HC1 := fun w => i_energiesBefore (clL R c) (clH R c) m w (by omega) (by omega) (by omega) (by omega) (by omega) (by omega)
        have HC2 := fun w => i_common (ndN R c) (hgK R c) (-clL R c) (m - clH R c) w (by omega) (by omega) (by omega) (by omega) (by omega) (by omega) (by omega) (by omega)
        rw [g4, g5] at HC2
        obtain ⟨lo, hlo⟩ : ∃ lo, lo = loK L F b := ⟨_, rfl⟩
        obtain ⟨hi, hhi⟩ : ∃ hi, hi = hiK L F b := ⟨_, rfl⟩
        rw [← hlo, ← hhi] at HC2
        have HLO := Lib.hid hlo; have HHI := Lib.hid hhi
        rw [← hlo, ← hhi] at ek
        clear hlo hhi
        clear d1 d2 d3 d7 d8 d9 d10 g1 g2 g3 g4 g5 g6
        go_wp2_with (go_at_call 104; refine (HG0 _).mono ?_; rintro e w7 ⟨rfl, hb⟩; have M := Lib.hid (M.out.later (Later.trans (by repeat (first | (with_reducible exact Later.refl _) | (with_reducible exact Hid.out (by assumption)) | (with_reducible refine Later.alloc ?_ _) | (with_reducible refine Later.setCell ?_ (by simp; omega) _) | (with_reducible refine Later.setCell ?_ (by simp) _) | (with_reducible refine Later.drewN ?_ _) | (with_reducible refine Later.drew ?_) | (with_reducible refine Later.trans ?_ (Hid.out (by assumption))))) hb)); clear hb; obtain ⟨r1, r2, r3, r4⟩ := Fr.o2 M.out.r; have zr := M.out.r.lt)
        refine into (fun W' => EbS w W.heap.size g w3.heap.size (some ⟨b0, o0, none⟩) n cap L [.int .i64 b, .int .i64 f, .int .i64 h, .int .i64 st, .int .i64 ln] (ndN R c) (hgK R c) (clL R c) (clH R c) (clL R c) (clH R c) W') (by repeat (first | exact M.out | refine EbS.later M.out (by repeat (first | (with_reducible exact Later.refl _) | (with_reducible exact Hid.out (by assumption)) | (with_reducible refine Later.alloc ?_ _) | (with_reducible refine Later.setCell ?_ (by simp; omega) _) | (with_reducible refine Later.setCell ?_ (by simp) _) | (with_reducible refine Later.drewN ?_ _) | (with_reducible refine Later.drew ?_) | (with_reducible refine Later.trans ?_ (Hid.out (by assumption))))))) ?_
        clear u1 u2 u3 u4 u5 u6 r1 r2 r3 r4 zb zl zr c0 c1 c2 c3 c4 c5 c6 M zs
        intro W6 hE6
        have M := Lib.hid hE6
        obtain ⟨m1, m2, m3, m4⟩ := Fr.o2 hE6.B'
        obtain ⟨n1, n2, n3, n4⟩ := Fr.o2 hE6.s
        obtain ⟨r1, r2, r3, r4⟩ := Fr.o2 hE6.r
        have zs := hE6.s.lt
        have nBS : ¬ W.heap.size = w3.heap.size := by omega
        have nSB : ¬ w3.heap.size = W.heap.size := by omega
        clear hE6
        go_cut [] (fun W' => EbS w W.heap.size g w3.heap.size (some ⟨b0, o0, none⟩) n cap L [.int .i64 b, .int .i64 f, .int .i64 h, .int .i64 st, .int .i64 ln] (lo) (hi) (clL R c) (clH R c) (clL R c) (clH R c) W')
        case first =>
          go_region_with (first
            | (go_at_call 103; refine (HC1 _).mono ?_; rintro e w7 ⟨rfl, hb⟩; (first | (have M := Lib.hid (M.out.later hb)) | (have M := Lib.hid (M.out.later (later_undrew hb))) | (have M := Lib.hid (M.out.later (later_undrewN hb)))); obtain ⟨m1, m2, m3, m4⟩ := Fr.o2 M.out.B'; obtain ⟨n1, n2, n3, n4⟩ := Fr.o2 M.out.s; obtain ⟨r1, r2, r3, r4⟩ := Fr.o2 M.out.r; have zs := M.out.s.lt; clear hb)
            | (go_at_call 102; refine (HC2 _).mono ?_; rintro e w7 ⟨rfl, hb⟩; (first | (have M := Lib.hid (M.out.later hb)) | (have M := Lib.hid (M.out.later (later_undrew hb))) | (have M := Lib.hid (M.out.later (later_undrewN hb)))); obtain ⟨m1, m2, m3, m4⟩ := Fr.o2 M.out.B'; obtain ⟨n1, n2, n3, n4⟩ := Fr.o2 M.out.s; obtain ⟨r1, r2, r3, r4⟩ := Fr.o2 M.out.r; have zs := M.out.s.lt; clear hb))
          all_goals
            go_wp2_with fail
            go_meet
            exact M.out.setB HO.out _ _
        case rest =>
          clear m1 m2 m3 m4 n1 n2 n3 n4 r1 r2 r3 r4 zs M
          have M := Lib.hid hcut
          obtain ⟨m1, m2, m3, m4⟩ := Fr.o2 hcut.B'
          obtain ⟨r1, r2, r3, r4⟩ := Fr.o2 hcut.r
          have zs := hcut.s.lt
          clear hcut
          by_cases hle : lo ≤ hi
          · have ek0 : Hid (kE L F b = 0) := Lib.hid (by rw [ek.out, if_pos hle])
            go_wp2_with fail
            refine bodyPost_ret (v := .tuple #[.agg #[.int .i64 lo, .int .i64 hi], .int .i64 0]) (by simp [results, Try.results87, go_sem, *] <;> omega) rfl ⟨by rw [ek0.out, ← HLO.out, ← HHI.out]; rfl, (by repeat (first | exact M.out.lt | refine Later.drew ?_ | refine Later.drewN ?_ _ | refine Later.setCell ?_ (by simp <;> omega) _))⟩
          · have ek0 : Hid (kE L F b = 5) := Lib.hid (by rw [ek.out, if_neg hle])
            go_wp2_with fail
            refine bodyPost_ret (v := .tuple #[.agg #[.int .i64 0, .int .i64 0], .int .i64 5]) (by simp [results, Try.results87, go_sem, *] <;> omega) rfl ⟨by rw [ek0.out]; rfl, (by repeat (first | exact M.out.lt | refine Later.drew ?_ | refine Later.drewN ?_ _ | refine Later.setCell ?_ (by simp <;> omega) _))⟩
end Go.Proofs.Ytnmlkigpiaekjaa
