/- Contracts of chapter 7: the bounds of the energies with which a train may enter a block, of the program. | The model's source of drawn numbers: whatever the bytes are, it hands out numbers within their range and touches nothing but itself. | The model's source out of a code; numbers picked and drawn. | Slices that came in, as the shell of a proof says them. | Segments and layouts that came in, opened to cells. | Contracts of chapter 3: segments that are valid, segments that hold: the model's functions. | Segments that hold, of the model. | Contracts of chapter 3: layouts: the model's functions. | The length of a track, of the model. | Contracts of chapter 1's divisions that later chapters use: rounded down. | Contracts of chapter 3: positions, heights and beginnings: the model's functions. | What hands back the beginnings of segments. | Contracts of chapter 3: beginnings of segments: the model's functions. | Contracts of chapter 4: the model's functions. | Contracts of chapter 4: the model's look-ups. | Contracts of chapter 7: may a train enter a block, of the program. | Contracts of chapter 1's divisions, of the program and of the model. | Contracts of the roots. | Contracts of chapter 6: the model's functions on one segment. | Contracts of chapter 6: the model's speeds, verdicts, energies behind a segment. | Contracts of chapter 7: the model's functions on one brake. | Contracts of chapter 7: the model's verdict on a stop. | Contracts of chapter 6: runs, and the energy that is needed: the model's functions. | Contracts of chapter 6: the energy that is needed: the model's functions. | Contracts of chapter 7: the energies with which a train may enter a block, of the model. -/
import Derived.Test.YtdhoiiejcmnmbaaBrO
import Derived.Test.YtdhoiiejcmnmbaaEnA
import Derived.Test.YtdhoiiejcmnmbaaMarkS
import Derived.Deep.RegionWith
import Derived.Test.YtdhoiiejcmnmbaaSl
import Derived.Test.YtdhoiiejcmnmbaaGrown
import Derived.WalkSmall
import Derived.RegionTactic
import Derived.ChangeAlike
import Derived.Test.YtdhoiiejcmnmbaaSgs
import Derived.Deep.Slices
import Derived.ChangeSame
import Derived.Test.YtdhoiiejcmnmbaaIvN
import Derived.Test.YtdhoiiejcmnmbaaSgM
import Derived.BigQuiet
import Derived.Deep.QuietTactic
import Derived.Test.YtdhoiiejcmnmbaaOwn
import Derived.IntWalk
import Derived.Test.YtdhoiiejcmnmbaaNum0
import Derived.Deep.DeepMust
import Derived.Test.YtdhoiiejcmnmbaaBkA
import Derived.Test.YtdhoiiejcmnmbaaHeld
import Derived.Laws.OwnMore
import Derived.Outline
import Derived.WalkMore
import Derived.Test.YtdhoiiejcmnmbaaEnK
import Derived.Test.YtdhoiiejcmnmbaaBrJ
import Derived.Test.YtdhoiiejcmnmbaaEnP
namespace Go.Proofs.Ytdhoiiejcmnmbaa
open Go.RowKit
set_option maxHeartbeats 4000000
set_option linter.unusedVariables false
set_option linter.unusedSimpArgs false
/-- the boxes of the walk: the layout, the block, the result, the bounds, the closure's sum, the sum -/
structure EbS (w : World) (B g S : Nat) (a : Option Addr) (n cap : Nat) (L : List Sg) (v : List Value) (lo hi p q x y : Int) (W : World) : Prop where
  l : Fr w.heap.size [.slice a n cap] W
  b : Fr (w.heap.size + 1) v W
  r : Fr (w.heap.size + 1 + 1) [.int .i64 0, .int .i64 0] W
  B' : Fr B [.int .i64 lo, .int .i64 hi] W
  g' : Fr g [.int .i64 p, .int .i64 q] W
  s : Fr S [.int .i64 x, .int .i64 y] W
  sg : Sgs W a n L
  lt : Later w W
/-- the order of the blocks -/
def EbO (w : World) (B g S : Nat) (a : Option Addr) : Prop := w.heap.size + 1 + 1 < B ∧ B < g ∧ g < S ∧ ∀ z, a = some z → z.block < w.heap.size
theorem EbS.later {w : World} {B g S : Nat} {a : Option Addr} {n cap : Nat} {L : List Sg} {v : List Value} {lo hi p q x y : Int} {W W' : World} (h : EbS w B g S a n cap L v lo hi p q x y W) (k : Later W W') : EbS w B g S a n cap L v lo hi p q x y W' :=
  ⟨fr_later h.l k, fr_later h.b k, fr_later h.r k, fr_later h.B' k, fr_later h.g' k, fr_later h.s k, h.sg.later k, h.lt.trans k⟩
theorem EbS.closure {w : World} {B g S : Nat} {a : Option Addr} {n cap : Nat} {L : List Sg} {v : List Value} {lo hi p q x y p' q' : Int} {W W' : World} (h : EbS w B g S a n cap L v lo hi p q x y W) (o : EbO w B g S a)
    (F : Fr g [.int .i64 p', .int .i64 q'] W') (k : W.grownBy W' (some g)) : EbS w B g S a n cap L v lo hi p' q' x y W' := by
  obtain ⟨o1, o2, o3, o4⟩ := o
  have ne : ∀ m, m ≠ g → (some g : Option Nat) ≠ some m := fun m hm e => hm (Option.some.inj e).symm
  exact ⟨fr_kept h.l k (ne _ (by omega)), fr_kept h.b k (ne _ (by omega)), fr_kept h.r k (ne _ (by omega)), fr_kept h.B' k (ne _ (by omega)), F, fr_kept h.s k (ne _ (by omega)),
    sgs_kept h.sg k (fun z e => ne _ (by have := o4 z e; omega)), later_kept h.lt k (fun j e => by cases e; omega)⟩
theorem EbS.setS {w : World} {B g S : Nat} {a : Option Addr} {n cap : Nat} {L : List Sg} {v : List Value} {lo hi p q x y : Int} {W : World} (h : EbS w B g S a n cap L v lo hi p q x y W) (o : EbO w B g S a) (x' y' : Int) :
    EbS w B g S a n cap L v lo hi p q x' y' ((W.setCell ⟨S, 0, none⟩ (.int .i64 x')).setCell ⟨S, 1, none⟩ (.int .i64 y')) := by
  obtain ⟨o1, o2, o3, o4⟩ := o
  have ne : ∀ m, m ≠ S → (some S : Option Nat) ≠ some m := fun m hm e => hm (Option.some.inj e).symm
  have k : W.grownBy ((W.setCell ⟨S, 0, none⟩ (.int .i64 x')).setCell ⟨S, 1, none⟩ (.int .i64 y')) (some S) := grown_set1 (grown_set W S 0 _) 1 _
  exact ⟨fr_kept h.l k (ne _ (by omega)), fr_kept h.b k (ne _ (by omega)), fr_kept h.r k (ne _ (by omega)), fr_kept h.B' k (ne _ (by omega)), fr_kept h.g' k (ne _ (by omega)), fr_set (fr_set h.s 0 _) 1 _,
    sgs_kept h.sg k (fun z e => ne _ (by have := o4 z e; omega)), later_kept h.lt k (fun j e => by cases e; omega)⟩
theorem EbS.setB {w : World} {B g S : Nat} {a : Option Addr} {n cap : Nat} {L : List Sg} {v : List Value} {lo hi p q x y : Int} {W : World} (h : EbS w B g S a n cap L v lo hi p q x y W) (o : EbO w B g S a) (x' y' : Int) :
    EbS w B g S a n cap L v x' y' p q x y ((W.setCell ⟨B, 0, none⟩ (.int .i64 x')).setCell ⟨B, 1, none⟩ (.int .i64 y')) := by
  obtain ⟨o1, o2, o3, o4⟩ := o
  have ne : ∀ m, m ≠ B → (some B : Option Nat) ≠ some m := fun m hm e => hm (Option.some.inj e).symm
  have k : W.grownBy ((W.setCell ⟨B, 0, none⟩ (.int .i64 x')).setCell ⟨B, 1, none⟩ (.int .i64 y')) (some B) := grown_set1 (grown_set W B 0 _) 1 _
  exact ⟨fr_kept h.l k (ne _ (by omega)), fr_kept h.b k (ne _ (by omega)), fr_kept h.r k (ne _ (by omega)), fr_set (fr_set h.B' 0 _) 1 _, fr_kept h.g' k (ne _ (by omega)), fr_kept h.s k (ne _ (by omega)),
    sgs_kept h.sg k (fun z e => ne _ (by have := o4 z e; omega)), later_kept h.lt k (fun j e => by cases e; omega)⟩
theorem gh_slow {L : List Sg} {F : List Int} {b f h c n : Nat} {y : Sg} {R : List Sg} (B : Bl L F b f h c n y R) (hs : slowB L F b = true) :
    ghE y = 0 ∧ 1 ≤ ghV y ∧ ghV y ≤ 10000000000 ∧ max (ndN R c) (-clL R c) = loK L F b ∧ min (hgK R c) (ghV y - clH R c) = hiK L F b ∧ okK L F b = decide (loK L F b ≤ hiK L F b) := by
  have h1 := ndN_end R c
  have h2 := hgK_end R c
  have hw := wk_bd y B.ysg
  have hlo : max (ndN R c) (-clL R c) = loK L F b := by unfold loK; rw [← B.Re, ← B.cn]; omega
  have hok : okK L F b = decide (loK L F b ≤ hiK L F b) := by unfold okK; rw [hs]; simp
  unfold slowB at hs
  rw [← B.ye] at hs
  rcases B.yk with k1 | k1
  · have e1 : ghE y = 0 := by unfold ghE; rw [if_pos k1]
    have e2 : ghV y = 10000000000 := by unfold ghV; rw [if_pos k1]
    have hb : brk y.k = false := by rw [brk_no]; omega
    refine ⟨e1, by omega, by omega, hlo, ?_, hok⟩
    unfold hiK
    rw [← B.ye, hb, ← B.Re, ← B.cn, e2]
    simp
    omega
  · have k0 : y.k ≠ 1 := by omega
    have hb : brk y.k = true := by rw [brk_iff]; exact k1
    rw [hb] at hs
    simp at hs
    have eb : brE y = 0 := by unfold brE; rw [if_pos B.ysg, if_pos hb]
    have es : slE y = 0 := by unfold slE; rw [if_pos eb, if_pos hs]
    have e1 : ghE y = 0 := by unfold ghE; rw [if_neg k0, es]
    have e2 : ghV y = min (wkL y) 10000000000 := by unfold ghV gsV; rw [if_neg k0, es]; rfl
    refine ⟨e1, by omega, by omega, hlo, ?_, hok⟩
    unfold hiK
    rw [← B.ye, if_pos hb, ← B.Re, ← B.cn, e2]
    omega
theorem gh_not {L : List Sg} {F : List Int} {b f h c n : Nat} {y : Sg} {R : List Sg} (B : Bl L F b f h c n y R) (hs : slowB L F b = false) : ghE y = 5 ∧ okK L F b = false := by
  have hok : okK L F b = false := by unfold okK; rw [hs]; rfl
  unfold slowB at hs
  rw [← B.ye] at hs
  simp at hs
  obtain ⟨hb, hs⟩ := hs
  have k0 : y.k ≠ 1 := by rw [brk_iff] at hb; omega
  have eb : brE y = 0 := by unfold brE; rw [if_pos B.ysg, if_pos hb]
  have es : slE y = 5 := by unfold slE; rw [if_pos eb, if_neg (by omega)]
  exact ⟨by unfold ghE; rw [if_neg k0, es], hok⟩
/-- the code of the bounds of a block -/
def kE (L : List Sg) (F : List Int) (b : Nat) : Int := if okK L F b = true then 0 else 5
set_option maxRecDepth 100000 in
theorem i_entryBounds (a : Option Addr) (n cap : Nat) (L : List Sg) (F : List Int) (b : Nat) (w : World) (hs : Sgs w a n L) (hcn : n ≤ cap) (hv : layB L = true) (hk : bkC L F = true) (hb : b < F.length) :
    Calls Try.prog 94 #[.agg #[.slice a n cap], scV (sec L F b)] w fun e w' => e = .returned (.tuple #[.agg #[.int .i64 (okV (kE L F b) (loK L F b)), .int .i64 (okV (kE L F b) (hiK L F b))], .int .i64 (kE L F b)]) ∧ Later w w' := by
  obtain ⟨f, h, c, y, R, hB⟩ := bl_of hv hk hb hs.1
  have HSC : scV (sec L F b) = .agg #[.int .i64 b, .int .i64 f, .int .i64 h, .int .i64 (stK L F b), .int .i64 (lnK L F b)] := by
    unfold scV sec; rw [hB.end', hB.fe]; simp
  rw [HSC]
  have HS := Lib.hid hs; have HB := Lib.hid hB
  have hfh := hB.le; have hhn := hB.lt; have h24 := hB.n24
  have hch : c = h - f := hB.ce
  generalize stK L F b = st
  generalize lnK L F b = ln
  have HA : Hid (∀ z, a = some z → z.block < w.heap.size) := Lib.hid (fun z e => by obtain ⟨b', o', e', hb', _⟩ := hs.at 0 (by omega); rw [e'] at e; cases e; exact hb')
  clear hs hB HSC hv hk
  go_enter Try.func94, Try.ntmps94
  go_upto_region 1 with (fail)
  refine into (fun W => Fr w.heap.size [.slice a n cap] W ∧ Fr (w.heap.size + 1) [.int .i64 b, .int .i64 f, .int .i64 h, .int .i64 st, .int .i64 ln] W ∧ Fr (w.heap.size + 1 + 1) [.int .i64 0, .int .i64 0] W ∧ Later w W) ⟨?_, ?_, ?_, (by repeat (first | (with_reducible exact Later.refl _) | (with_reducible exact Hid.out (by assumption)) | (with_reducible refine Later.alloc ?_ _) | (with_reducible refine Later.setCell ?_ (by simp; omega) _) | (with_reducible refine Later.setCell ?_ (by simp) _) | (with_reducible refine Later.drewN ?_ _) | (with_reducible refine Later.drew ?_) | (with_reducible refine Later.trans ?_ (Hid.out (by assumption)))))⟩ ?_
  · exact fr_alloc (X := w) (l := [.slice a n cap]) (T := 47) (Later.alloc (Later.alloc (Later.refl _) _) _)
  · have F1 := fr_alloc (X := w.alloc (.cells [Value.slice a n cap].toArray 47)) (l := [.int .i64 b, .int .i64 f, .int .i64 h, .int .i64 st, .int .i64 ln]) (T := 106) (Later.alloc (Later.refl _) (.cells [Value.int .i64 0, .int .i64 0].toArray 25))
    simp only [World.size_alloc] at F1
    exact F1
  · have F1 := fr_alloc (X := (w.alloc (.cells [Value.slice a n cap].toArray 47)).alloc (.cells [Value.int .i64 b, .int .i64 f, .int .i64 h, .int .i64 st, .int .i64 ln].toArray 106)) (l := [.int .i64 0, .int .i64 0]) (T := 25) (Later.refl _)
    simp only [World.size_alloc] at F1
    exact F1
  rintro W ⟨hl, hbk, hr, hlt⟩
  have HL := Lib.hid hl; have HBK := Lib.hid hbk; have HR := Lib.hid hr; have HLT := Lib.hid hlt
  have hzr := hr.lt
  clear hl hbk hr hlt
  go_wp2_with fail
  refine (i_coasting 0 0 _).mono ?_
  rintro e w3 ⟨g, rfl, hg, hF, hb3⟩
  have hgB : W.heap.size < g := by simp only [World.size_alloc] at hg; omega
  have hgS : g < w3.heap.size := hF.lt
  have HBX : Hid (Fr W.heap.size [.int .i64 0, .int .i64 10000000000] w3) := Lib.hid (fr_alloc hb3)
  have H3 : Hid (Later W w3) := Lib.hid (Later.trans (by repeat (first | (with_reducible exact Later.refl _) | (with_reducible exact Hid.out (by assumption)) | (with_reducible refine Later.alloc ?_ _) | (with_reducible refine Later.setCell ?_ (by simp; omega) _) | (with_reducible refine Later.setCell ?_ (by simp) _) | (with_reducible refine Later.drewN ?_ _) | (with_reducible refine Later.drew ?_) | (with_reducible refine Later.trans ?_ (Hid.out (by assumption))))) hb3)
  have F3 := Lib.hid hF
  have HO : Hid (EbO w W.heap.size g w3.heap.size a) := Lib.hid ⟨by omega, hgB, hgS, HA.out⟩
  obtain ⟨u1, u2, u3, u4, u5, _⟩ := Fr.o5 (fr_later HBK.out H3.out)
  obtain ⟨u6, _⟩ := Fr.o1 (fr_later HL.out H3.out)
  have hz1 : w.heap.size + 1 < w3.heap.size := by omega
  have hz0 : w.heap.size < w3.heap.size := by omega
  obtain ⟨b0, o0, rfl, hb0, _⟩ := HS.out.at 0 (by omega)
  have hfc : 1 ≤ cap - f := by omega
  clear hF hb3 hg
  unfold sumF
  go_wp2_with fail
  have hn0 : ((h : Int) - f).toNat = c := by omega
  have hcl : ((c : Nat) : Int) = (h : Int) - f := by omega
  go_loopw [24] (fun i wr => ∃ k : Nat, k ≤ c ∧ i = .int .i64 k ∧ EbS w W.heap.size g w3.heap.size (some ⟨b0, o0, none⟩) n cap L [.int .i64 b, .int .i64 f, .int .i64 h, .int .i64 st, .int .i64 ln] (ndN R k) (hgK R k) (clL R k) (clH R k) (clL R k) (clH R k) wr) (fun i _ => c - (intOf i).toNat)
  case atStart => exact ⟨0, by omega, rfl, fr_later HL.out (H3.out.trans (by repeat (first | (with_reducible exact Later.refl _) | (with_reducible exact Hid.out (by assumption)) | (with_reducible refine Later.alloc ?_ _) | (with_reducible refine Later.setCell ?_ (by simp; omega) _) | (with_reducible refine Later.setCell ?_ (by simp) _) | (with_reducible refine Later.drewN ?_ _) | (with_reducible refine Later.drew ?_) | (with_reducible refine Later.trans ?_ (Hid.out (by assumption)))))), fr_later HBK.out (H3.out.trans (by repeat (first | (with_reducible exact Later.refl _) | (with_reducible exact Hid.out (by assumption)) | (with_reducible refine Later.alloc ?_ _) | (with_reducible refine Later.setCell ?_ (by simp; omega) _) | (with_reducible refine Later.setCell ?_ (by simp) _) | (with_reducible refine Later.drewN ?_ _) | (with_reducible refine Later.drew ?_) | (with_reducible refine Later.trans ?_ (Hid.out (by assumption)))))), fr_later HR.out (H3.out.trans (by repeat (first | (with_reducible exact Later.refl _) | (with_reducible exact Hid.out (by assumption)) | (with_reducible refine Later.alloc ?_ _) | (with_reducible refine Later.setCell ?_ (by simp; omega) _) | (with_reducible refine Later.setCell ?_ (by simp) _) | (with_reducible refine Later.drewN ?_ _) | (with_reducible refine Later.drew ?_) | (with_reducible refine Later.trans ?_ (Hid.out (by assumption)))))), fr_later HBX.out (by repeat (first | (with_reducible exact Later.refl _) | (with_reducible exact Hid.out (by assumption)) | (with_reducible refine Later.alloc ?_ _) | (with_reducible refine Later.setCell ?_ (by simp; omega) _) | (with_reducible refine Later.setCell ?_ (by simp) _) | (with_reducible refine Later.drewN ?_ _) | (with_reducible refine Later.drew ?_) | (with_reducible refine Later.trans ?_ (Hid.out (by assumption))))), by rw [clL_0, clH_0]; exact fr_later F3.out (by repeat (first | (with_reducible exact Later.refl _) | (with_reducible exact Hid.out (by assumption)) | (with_reducible refine Later.alloc ?_ _) | (with_reducible refine Later.setCell ?_ (by simp; omega) _) | (with_reducible refine Later.setCell ?_ (by simp) _) | (with_reducible refine Later.drewN ?_ _) | (with_reducible refine Later.drew ?_) | (with_reducible refine Later.trans ?_ (Hid.out (by assumption))))), by rw [clL_0, clH_0]; exact fr_alloc (Later.refl _), HS.out.later (HLT.out.trans (H3.out.trans (by repeat (first | (with_reducible exact Later.refl _) | (with_reducible exact Hid.out (by assumption)) | (with_reducible refine Later.alloc ?_ _) | (with_reducible refine Later.setCell ?_ (by simp; omega) _) | (with_reducible refine Later.setCell ?_ (by simp) _) | (with_reducible refine Later.drewN ?_ _) | (with_reducible refine Later.drew ?_) | (with_reducible refine Later.trans ?_ (Hid.out (by assumption))))))), HLT.out.trans (H3.out.trans (by repeat (first | (with_reducible exact Later.refl _) | (with_reducible exact Hid.out (by assumption)) | (with_reducible refine Later.alloc ?_ _) | (with_reducible refine Later.setCell ?_ (by simp; omega) _) | (with_reducible refine Later.setCell ?_ (by simp) _) | (with_reducible refine Later.drewN ?_ _) | (with_reducible refine Later.drew ?_) | (with_reducible refine Later.trans ?_ (Hid.out (by assumption))))))⟩
  case round =>
    clear u1 u2 u3 u4 u5 u6
    obtain ⟨k, hk, rfl, hE⟩ := hrel
    have HE := Lib.hid hE
    have zs := hE.s.lt
    by_cases hlt : k < c
    · have hseg : sgB (sx R k) = true := okB_at R R.length k (Nat.le_refl _) (by rw [HB.out.Rl]; exact hlt) HB.out.Rok
      obtain ⟨d1, d2, d3⟩ := cl_bd R HB.out.Rok k (by rw [HB.out.Rl]; exact hk)
      obtain ⟨d4, d5, d6⟩ := cl_bd R HB.out.Rok (k + 1) (by rw [HB.out.Rl]; exact hlt)
      obtain ⟨d7, d8⟩ := ndN_bd R HB.out.Rok k (by rw [HB.out.Rl]; exact hk)
      have d9 := hgK_ge R HB.out.Rok k (by rw [HB.out.Rl]; exact hk)
      have d10 := hgK_le R k
      obtain ⟨X, hX⟩ : ∃ X, X = clL R (k + 1) := ⟨_, rfl⟩
      obtain ⟨Y, hY⟩ : ∃ Y, Y = clH R (k + 1) := ⟨_, rfl⟩
      have q1 : clL R k + chL (sx R k) = X := by rw [hX, clL_succ R k (by rw [HB.out.Rl]; exact hlt)]
      have q2 : clH R k + chH (sx R k) = Y := by rw [hY, clH_succ R k (by rw [HB.out.Rl]; exact hlt)]
      have HX := Lib.hid hX; have HY := Lib.hid hY
      rw [← hX] at d4 d5; rw [← hY] at d5 d6
      have HN : Hid (ndN R (k + 1) = max (ndN R k) (-X)) := Lib.hid (by rw [hX]; exact ndN_succ R k)
      have HG : Hid (hgK R (k + 1) = min (hgK R k) (10000000000 - Y)) := Lib.hid (by rw [hY]; exact hgK_succ R k)
      have HC1 := fun w => i_energiesBefore X Y 10000000000 w (by omega) (by omega) (by omega) (by omega) (by omega) (by omega)
      have HC2 := fun w => i_common (ndN R k) (hgK R k) (-X) (10000000000 - Y) w (by omega) (by omega) (by omega) (by omega) (by omega) (by omega) (by omega) (by omega)
      rw [← HN.out, ← HG.out] at HC2
      have b1 : -1000000000000 ≤ clL R k := by omega
      have b2 : clL R k ≤ 1000000000000 := by omega
      have b3 : -1000000000000 ≤ clH R k := by omega
      have b4 : clH R k ≤ 1000000000000 := by omega
      clear d1 d2 d3 d4 d5 d6 d7 d8 d9 d10 hX hY
      obtain ⟨b', o', hbb, hb', hc7⟩ := hE.sg.at (f + k) (by omega)
      simp only [Option.some.injEq, Addr.mk.injEq, and_true] at hbb
      obtain ⟨rfl, rfl⟩ := hbb
      obtain ⟨c0, c1, c2, c3, c4, c5, c6⟩ := hc7
      rw [show o0 + (f + k) * 7 = o0 + f * 7 + k * 7 by omega, ← HB.out.Rat k hlt] at c0 c1 c2 c3 c4 c5 c6
      have hlt2 : (k : Int) < (h : Int) - f := by omega
      have hlt3 : k < h - f := by omega
      clear hE
      go_wp2_with fail
      refine (i_coasting1 (sx R k) g (clL R k) (clH R k) _ hseg (fr_later HE.out.g' (by repeat (first | (with_reducible exact Later.refl _) | (with_reducible exact Hid.out (by assumption)) | (with_reducible refine Later.alloc ?_ _) | (with_reducible refine Later.setCell ?_ (by simp; omega) _) | (with_reducible refine Later.setCell ?_ (by simp) _) | (with_reducible refine Later.drewN ?_ _) | (with_reducible refine Later.drew ?_) | (with_reducible refine Later.trans ?_ (Hid.out (by assumption)))))) b1 b2 b3 b4).mono ?_
      rw [q1, q2]
      rintro e w5 ⟨rfl, hF5, hg5⟩
      have M5 : Hid (EbS w W.heap.size g w3.heap.size (some ⟨b0, o0, none⟩) n cap L [.int .i64 b, .int .i64 f, .int .i64 h, .int .i64 st, .int .i64 ln] (ndN R k) (hgK R k) (X) (Y) (clL R k) (clH R k) w5) := Lib.hid ((HE.out.later (by repeat (first | (with_reducible exact Later.refl _) | (with_reducible exact Hid.out (by assumption)) | (with_reducible refine Later.alloc ?_ _) | (with_reducible refine Later.setCell ?_ (by simp; omega) _) | (with_reducible refine Later.setCell ?_ (by simp) _) | (with_reducible refine Later.drewN ?_ _) | (with_reducible refine Later.drew ?_) | (with_reducible refine Later.trans ?_ (Hid.out (by assumption)))))).closure HO.out hF5 hg5)
      obtain ⟨n1, n2, n3, n4⟩ := Fr.o2 M5.out.s
      have zs := M5.out.s.lt
      clear hF5 hg5 c0 c1 c2 c3 c4 c5 c6 HE q1 q2
      go_wp2_with fail
      refine into (fun W' => EbS w W.heap.size g w3.heap.size (some ⟨b0, o0, none⟩) n cap L [.int .i64 b, .int .i64 f, .int .i64 h, .int .i64 st, .int .i64 ln] (ndN R k) (hgK R k) (X) (Y) (X) (Y) W') (by first | exact M5.out.setS HO.out X Y) ?_
      clear n1 n2 n3 n4 zs M5
      intro W6 hE6
      have M := Lib.hid hE6
      obtain ⟨m1, m2, m3, m4⟩ := Fr.o2 hE6.B'
      obtain ⟨n1, n2, n3, n4⟩ := Fr.o2 hE6.s
      have zs := hE6.s.lt
      have nBS : ¬ W.heap.size = w3.heap.size := by omega
      have nSB : ¬ w3.heap.size = W.heap.size := by omega
      clear hE6
      go_region_with (first
        | (go_at_call 119; refine (HC1 _).mono ?_; rintro e w7 ⟨rfl, hb⟩; (first | (have M := Lib.hid (M.out.later hb)) | (have M := Lib.hid (M.out.later (later_undrew hb))) | (have M := Lib.hid (M.out.later (later_undrewN hb)))); obtain ⟨m1, m2, m3, m4⟩ := Fr.o2 M.out.B'; obtain ⟨n1, n2, n3, n4⟩ := Fr.o2 M.out.s; have zs := M.out.s.lt; clear hb)
        | (go_at_call 118; refine (HC2 _).mono ?_; rintro e w7 ⟨rfl, hb⟩; (first | (have M := Lib.hid (M.out.later hb)) | (have M := Lib.hid (M.out.later (later_undrew hb))) | (have M := Lib.hid (M.out.later (later_undrewN hb)))); obtain ⟨m1, m2, m3, m4⟩ := Fr.o2 M.out.B'; obtain ⟨n1, n2, n3, n4⟩ := Fr.o2 M.out.s; have zs := M.out.s.lt; clear hb))
      all_goals
        go_wp2_with fail
        go_roundw
        case rel =>
          refine ⟨k + 1, by omega, by go_num, ?_⟩
          rw [← HX.out, ← HY.out]
          exact M.out.setB HO.out _ _
        case measure => simp [intOf]; omega
    · obtain rfl : c = k := by omega
      have M := Lib.hid hE
      obtain ⟨b', o', hbb, hb', hc7⟩ := hE.sg.at h hhn
      simp only [Option.some.injEq, Addr.mk.injEq, and_true] at hbb
      obtain ⟨rfl, rfl⟩ := hbb
      obtain ⟨c0, c1, c2, c3, c4, c5, c6⟩ := hc7
      rw [show sx L h = y by rw [HB.out.ye, HB.out.he]; rfl] at c0 c1 c2 c3 c4 c5 c6
      obtain ⟨u1, u2, u3, u4, u5, _⟩ := Fr.o5 hE.b
      obtain ⟨u6, _⟩ := Fr.o1 hE.l
      obtain ⟨r1, r2, r3, r4⟩ := Fr.o2 hE.r
      have zb := hE.b.lt
      have zl := hE.l.lt
      have zr := hE.r.lt
      have hltn : ¬ (c < h - f) := by omega
      have hltn2 : ¬ ((c : Int) < (h : Int) - f) := by omega
      have dc : c ≤ 24 := by omega
      clear hE hch hcl hn0
      cases hsl : slowB L F b
      · obtain ⟨g1, g2⟩ := gh_not HB.out hsl
        have ek : Hid (kE L F b = 5) := Lib.hid (by unfold kE; rw [g2]; rfl)
        have HG0 := fun w => i_greatestHeld y w
        rw [g1] at HG0
        generalize ghV y = m at *
        go_wp2_with (go_at_call 120; refine (HG0 _).mono ?_; rintro e w7 ⟨rfl, hb⟩; have M := Lib.hid (M.out.later (Later.trans (by repeat (first | (with_reducible exact Later.refl _) | (with_reducible exact Hid.out (by assumption)) | (with_reducible refine Later.alloc ?_ _) | (with_reducible refine Later.setCell ?_ (by simp; omega) _) | (with_reducible refine Later.setCell ?_ (by simp) _) | (with_reducible refine Later.drewN ?_ _) | (with_reducible refine Later.drew ?_) | (with_reducible refine Later.trans ?_ (Hid.out (by assumption))))) hb)); clear hb; obtain ⟨r1, r2, r3, r4⟩ := Fr.o2 M.out.r; have zr := M.out.r.lt)
        refine bodyPost_ret (v := .tuple #[.agg #[.int .i64 0, .int .i64 0], .int .i64 5]) (by simp [results, Try.results94, go_sem, *]) rfl ⟨by rw [ek.out]; rfl, (by repeat (first | exact M.out.lt | refine Later.drew ?_ | refine Later.drewN ?_ _ | refine Later.setCell ?_ (by simp <;> omega) _))⟩
      · obtain ⟨g1, g2, g3, g4, g5, g6⟩ := gh_slow HB.out hsl
        have HG0 := fun w => i_greatestHeld y w
        rw [g1] at HG0
        obtain ⟨d1, d2, d3⟩ := cl_bd R HB.out.Rok c (by rw [HB.out.Rl]; exact hk)
        obtain ⟨d7, d8⟩ := ndN_bd R HB.out.Rok c (by rw [HB.out.Rl]; exact hk)
        have d9 := hgK_ge R HB.out.Rok c (by rw [HB.out.Rl]; exact hk)
        have d10 := hgK_le R c
        have ek : Hid (kE L F b = if loK L F b ≤ hiK L F b then 0 else 5) := Lib.hid (by unfold kE; rw [g6]; simp)
        generalize ghV y = m at *
        have HC1 := fun w => i_energiesBefore (clL R c) (clH R c) m w (by omega) (by omega) (by omega) (by omega) (by omega) (by omega)
        have HC2 := fun w => i_common (ndN R c) (hgK R c) (-clL R c) (m - clH R c) w (by omega) (by omega) (by omega) (by omega) (by omega) (by omega) (by omega) (by omega)
        rw [g4, g5] at HC2
        obtain ⟨lo, hlo⟩ : ∃ lo, lo = loK L F b := ⟨_, rfl⟩
        obtain ⟨hi, hhi⟩ : ∃ hi, hi = hiK L F b := ⟨_, rfl⟩
        rw [← hlo, ← hhi] at HC2
        have HLO := Lib.hid hlo; have HHI := Lib.hid hhi
        rw [← hlo, ← hhi] at ek
        clear hlo hhi
        clear d1 d2 d3 d7 d8 d9 d10 g1 g2 g3 g4 g5 g6
        go_wp2_with (go_at_call 120; refine (HG0 _).mono ?_; rintro e w7 ⟨rfl, hb⟩; have M := Lib.hid (M.out.later (Later.trans (by repeat (first | (with_reducible exact Later.refl _) | (with_reducible exact Hid.out (by assumption)) | (with_reducible refine Later.alloc ?_ _) | (with_reducible refine Later.setCell ?_ (by simp; omega) _) | (with_reducible refine Later.setCell ?_ (by simp) _) | (with_reducible refine Later.drewN ?_ _) | (with_reducible refine Later.drew ?_) | (with_reducible refine Later.trans ?_ (Hid.out (by assumption))))) hb)); clear hb; obtain ⟨r1, r2, r3, r4⟩ := Fr.o2 M.out.r; have zr := M.out.r.lt)
        refine into (fun W' => EbS w W.heap.size g w3.heap.size (some ⟨b0, o0, none⟩) n cap L [.int .i64 b, .int .i64 f, .int .i64 h, .int .i64 st, .int .i64 ln] (ndN R c) (hgK R c) (clL R c) (clH R c) (clL R c) (clH R c) W') (by repeat (first | exact M.out | refine EbS.later M.out (by repeat (first | (with_reducible exact Later.refl _) | (with_reducible exact Hid.out (by assumption)) | (with_reducible refine Later.alloc ?_ _) | (with_reducible refine Later.setCell ?_ (by simp; omega) _) | (with_reducible refine Later.setCell ?_ (by simp) _) | (with_reducible refine Later.drewN ?_ _) | (with_reducible refine Later.drew ?_) | (with_reducible refine Later.trans ?_ (Hid.out (by assumption))))))) ?_
        clear u1 u2 u3 u4 u5 u6 r1 r2 r3 r4 zb zl zr c0 c1 c2 c3 c4 c5 c6 M zs
        intro W6 hE6
        have M := Lib.hid hE6
        obtain ⟨m1, m2, m3, m4⟩ := Fr.o2 hE6.B'
        obtain ⟨n1, n2, n3, n4⟩ := Fr.o2 hE6.s
        obtain ⟨r1, r2, r3, r4⟩ := Fr.o2 hE6.r
        have zs := hE6.s.lt
        have nBS : ¬ W.heap.size = w3.heap.size := by omega
        have nSB : ¬ w3.heap.size = W.heap.size := by omega
        clear hE6
        go_cut [] (fun W' => EbS w W.heap.size g w3.heap.size (some ⟨b0, o0, none⟩) n cap L [.int .i64 b, .int .i64 f, .int .i64 h, .int .i64 st, .int .i64 ln] (lo) (hi) (clL R c) (clH R c) (clL R c) (clH R c) W')
        case first =>
          go_region_with (first
            | (go_at_call 119; refine (HC1 _).mono ?_; rintro e w7 ⟨rfl, hb⟩; (first | (have M := Lib.hid (M.out.later hb)) | (have M := Lib.hid (M.out.later (later_undrew hb))) | (have M := Lib.hid (M.out.later (later_undrewN hb)))); obtain ⟨m1, m2, m3, m4⟩ := Fr.o2 M.out.B'; obtain ⟨n1, n2, n3, n4⟩ := Fr.o2 M.out.s; obtain ⟨r1, r2, r3, r4⟩ := Fr.o2 M.out.r; have zs := M.out.s.lt; clear hb)
            | (go_at_call 118; refine (HC2 _).mono ?_; rintro e w7 ⟨rfl, hb⟩; (first | (have M := Lib.hid (M.out.later hb)) | (have M := Lib.hid (M.out.later (later_undrew hb))) | (have M := Lib.hid (M.out.later (later_undrewN hb)))); obtain ⟨m1, m2, m3, m4⟩ := Fr.o2 M.out.B'; obtain ⟨n1, n2, n3, n4⟩ := Fr.o2 M.out.s; obtain ⟨r1, r2, r3, r4⟩ := Fr.o2 M.out.r; have zs := M.out.s.lt; clear hb))
          all_goals
            go_wp2_with fail
            go_meet
            exact M.out.setB HO.out _ _
        case rest =>
          clear m1 m2 m3 m4 n1 n2 n3 n4 r1 r2 r3 r4 zs M
          have M := Lib.hid hcut
          obtain ⟨m1, m2, m3, m4⟩ := Fr.o2 hcut.B'
          obtain ⟨r1, r2, r3, r4⟩ := Fr.o2 hcut.r
          have zs := hcut.s.lt
          clear hcut
          by_cases hle : lo ≤ hi
          · have ek0 : Hid (kE L F b = 0) := Lib.hid (by rw [ek.out, if_pos hle])
            go_wp2_with fail
            refine bodyPost_ret (v := .tuple #[.agg #[.int .i64 lo, .int .i64 hi], .int .i64 0]) (by simp [results, Try.results94, go_sem, *] <;> omega) rfl ⟨by rw [ek0.out, ← HLO.out, ← HHI.out]; rfl, (by repeat (first | exact M.out.lt | refine Later.drew ?_ | refine Later.drewN ?_ _ | refine Later.setCell ?_ (by simp <;> omega) _))⟩
          · have ek0 : Hid (kE L F b = 5) := Lib.hid (by rw [ek.out, if_neg hle])
            go_wp2_with fail
            refine bodyPost_ret (v := .tuple #[.agg #[.int .i64 0, .int .i64 0], .int .i64 5]) (by simp [results, Try.results94, go_sem, *] <;> omega) rfl ⟨by rw [ek0.out]; rfl, (by repeat (first | exact M.out.lt | refine Later.drew ?_ | refine Later.drewN ?_ _ | refine Later.setCell ?_ (by simp <;> omega) _))⟩
end Go.Proofs.Ytdhoiiejcmnmbaa
namespace Go.Proofs.Ytdhoiiejcmnmbaa
open Go.RowKit
set_option maxHeartbeats 2000000
set_option linter.unusedVariables false
set_option linter.unusedSimpArgs false
/-- the bytes of the code, seen from a source in block B -/
def Code8 (w : World) (B : Nat) (a : Option Addr) (len : Nat) : Prop :=
  len ≤ 9223372036854775807 ∧ ∀ k, k < len → ∃ b off x, a = some ⟨b, off, none⟩ ∧ b ≠ B ∧ w.cell? ⟨b, off + k, none⟩ = some (.int .u8 x) ∧ 0 ≤ x ∧ x ≤ 255
def Src (w : World) (B : Nat) (a : Option Addr) (len cap : Nat) : Prop :=
  (∃ (p : Nat) (s : Int), p ≤ len ∧ 0 ≤ s ∧ s < 2147483647 ∧ w.heap[B]? = some (.cells #[.slice a len cap, .int .i64 p, .int .i64 s] 115 (0, 0))) ∧ Code8 w B a len
theorem Code8.kept {w w' : World} {B : Nat} {a : Option Addr} {len : Nat} (h : Code8 w B a len) (hg : w.grownBy w' (some B)) : Code8 w' B a len := by
  refine ⟨h.1, fun k hk => ?_⟩
  obtain ⟨b, off, x, rfl, hb, hc, h0, h1⟩ := h.2 k hk
  exact ⟨b, off, x, rfl, hb, hg.cell hc (by simpa using hb), h0, h1⟩
theorem set2 {w : World} {B : Nat} {c0 c1 c2 u : Value} {T : TypeId} (h : w.heap[B]? = some (.cells #[c0, c1, c2] T (0, 0))) : (w.setCell ⟨B, 2, none⟩ u).heap[B]? = some (.cells #[c0, c1, u] T (0, 0)) := by
  rw [heap_setCell_same w B 2 _ T u h]; rfl
theorem set1 {w : World} {B : Nat} {c0 c1 c2 u : Value} {T : TypeId} (h : w.heap[B]? = some (.cells #[c0, c1, c2] T (0, 0))) : (w.setCell ⟨B, 1, none⟩ u).heap[B]? = some (.cells #[c0, u, c2] T (0, 0)) := by
  rw [heap_setCell_same w B 1 _ T u h]; rfl
def Nexted (w : World) (B : Nat) (a : Option Addr) (len cap : Nat) (n : Int) (e : Ending) (w' : World) : Prop :=
  ∃ r : Int, e = .returned (.int .i64 r) ∧ 0 ≤ r ∧ (1 < n → r < n) ∧ (n ≤ 1 → r = 0) ∧ Src w' B a len cap ∧ w.grownBy w' (some B)
theorem next_fin0 {w : World} {B : Nat} {a : Option Addr} {len cap p : Nat} {s s' : Int} (q : Nat) (hb : w.heap[B]? = some (.cells #[.slice a len cap, .int .i64 p, .int .i64 s] 115 (0, 0))) (hc : Code8 w B a len) (hp : p ≤ len) (s0 : 0 ≤ s') (s1 : s' < 2147483647) :
    Src ((w.setCell ⟨B, 2, none⟩ (.int .i64 s')).drewN q) B a len cap ∧ w.grownBy ((w.setCell ⟨B, 2, none⟩ (.int .i64 s')).drewN q) (some B) := by
  have g : w.grownBy ((w.setCell ⟨B, 2, none⟩ (.int .i64 s')).drewN q) (some B) := grown_trans (grown_set _ _ _ _) (grown_drewN _ _ _)
  exact ⟨⟨⟨p, s', hp, s0, s1, set2 hb⟩, hc.kept g⟩, g⟩
theorem next_fin {w : World} {B : Nat} {a : Option Addr} {len cap p : Nat} {s s' x : Int} (q q' : Nat) (hb : w.heap[B]? = some (.cells #[.slice a len cap, .int .i64 p, .int .i64 s] 115 (0, 0))) (hc : Code8 w B a len) (hp : p + 1 ≤ len) (hx : x = ((p + 1 : Nat) : Int)) (s0 : 0 ≤ s') (s1 : s' < 2147483647) :
    Src ((((w.setCell ⟨B, 2, none⟩ (.int .i64 s')).drewN q).setCell ⟨B, 1, none⟩ (.int .i64 x)).drewN q') B a len cap ∧ w.grownBy ((((w.setCell ⟨B, 2, none⟩ (.int .i64 s')).drewN q).setCell ⟨B, 1, none⟩ (.int .i64 x)).drewN q') (some B) := by
  have g : w.grownBy ((((w.setCell ⟨B, 2, none⟩ (.int .i64 s')).drewN q).setCell ⟨B, 1, none⟩ (.int .i64 x)).drewN q') (some B) :=
    grown_trans (grown_trans (grown_trans (grown_set _ _ _ _) (grown_drewN _ _ _)) (grown_set _ _ _ _)) (grown_drewN _ _ _)
  subst hx
  exact ⟨⟨⟨p + 1, s', hp, s0, s1, set1 (show ((w.setCell ⟨B, 2, none⟩ (.int .i64 s')).drewN q).heap[B]? = _ from set2 hb)⟩, hc.kept g⟩, g⟩
theorem s_Next (B : Nat) (a : Option Addr) (len cap : Nat) (n : Int) (w : World) (hs : Src w B a len cap) (hn : -9223372036854775808 ≤ n) (hn2 : n ≤ 9223372036854775807) :
    Calls Try.prog 58 #[.pointer (some ⟨B, 0, none⟩), .int .i64 n] w (Nexted w B a len cap n) := by
  have HS := Lib.hid hs
  obtain ⟨⟨p, s, p1, s0, s1, hb⟩, hcode⟩ := hs
  have HB := Lib.hid hb
  have HC := Lib.hid hcode
  have hl := hcode.1
  clear hcode
  have c0 : w.cell? ⟨B, 0, none⟩ = some (.slice a len cap) := by simp [World.cell?, hb]
  have c1 : w.cell? ⟨B, 1, none⟩ = some (.int .i64 p) := by simp [World.cell?, hb]
  have c2 : w.cell? ⟨B, 2, none⟩ = some (.int .i64 s) := by simp [World.cell?, hb]
  have f1 : w.frozen? ⟨B, 1, none⟩ = false := by simp [World.frozen?, hb]
  have f2 : w.frozen? ⟨B, 2, none⟩ = false := by simp [World.frozen?, hb]
  clear hb
  by_cases h1 : n ≤ 1
  · go_enter Try.func58, Try.ntmps58
    go_wp2
    go_ret
    exact ⟨0, rfl, by omega, fun h => by omega, fun _ => rfl, HS.out, ⟨rfl, rfl, rfl, Nat.le_refl _, fun _ _ _ => rfl⟩⟩
  · have hm : 0 ≤ (s * 48271 + 29) % 2147483647 / 31 := by omega
    have mod_bd : ∀ x : Int, 0 ≤ x → 0 ≤ x % n ∧ x % n < n := fun x hx => ⟨Int.emod_nonneg _ (by omega), Int.emod_lt_of_pos _ (by omega)⟩
    have MB := Lib.hid mod_bd
    clear mod_bd
    by_cases h2 : p < len
    · obtain ⟨b, off, x, rfl, hne, hx, x0, x1⟩ := HC.out.2 p h2
      by_cases h3 : n ≤ 256
      · have d3 : decide (n ≤ 256) = true := by simpa using h3
        by_cases h4 : (p + 1) % 2 = 0
        · have d4 : (((p : Int) + 1) % 2 == 0) = true := by simp; omega
          go_enter Try.func58, Try.ntmps58
          go_wp2
          go_quiet (fail)
          go_wp2
          go_quiet (fail)
          go_wp2
          go_quiet (fail)
          go_wp2
          go_ret
          obtain ⟨r0, r1⟩ := MB.out x x0
          obtain ⟨f1, f2⟩ := next_fin _ _ HB.out HC.out (show p + 1 ≤ len by omega) (show (p : Int) + 1 = _ by omega) (show 0 ≤ (s * 48271 + 29) % 2147483647 by omega) (by omega)
          exact ⟨_, rfl, r0, fun _ => r1, fun h => by omega, f1, f2⟩
        · have d4 : (((p : Int) + 1) % 2 == 0) = false := by simp; omega
          have hm2 : 0 ≤ (s * 48271 + 29) % 2147483647 / 31 + x := by omega
          go_enter Try.func58, Try.ntmps58
          go_wp2
          go_quiet (fail)
          go_wp2
          go_quiet (fail)
          go_wp2
          go_ret
          obtain ⟨r0, r1⟩ := MB.out _ hm2
          obtain ⟨f1, f2⟩ := next_fin _ 0 HB.out HC.out (show p + 1 ≤ len by omega) (show (p : Int) + 1 = _ by omega) (show 0 ≤ (s * 48271 + 29) % 2147483647 by omega) (by omega)
          exact ⟨_, rfl, r0, fun _ => r1, fun h => by omega, f1, f2⟩
      · have d3 : decide (n ≤ 256) = false := by simpa using h3
        have hm2 : 0 ≤ (s * 48271 + 29) % 2147483647 / 31 + x := by omega
        go_enter Try.func58, Try.ntmps58
        go_wp2
        go_quiet (fail)
        go_wp2
        go_quiet (fail)
        go_wp2
        go_ret
        obtain ⟨r0, r1⟩ := MB.out _ hm2
        obtain ⟨f1, f2⟩ := next_fin _ 0 HB.out HC.out (show p + 1 ≤ len by omega) (show (p : Int) + 1 = _ by omega) (show 0 ≤ (s * 48271 + 29) % 2147483647 by omega) (by omega)
        exact ⟨_, rfl, r0, fun _ => r1, fun h => by omega, f1, f2⟩
    · go_enter Try.func58, Try.ntmps58
      go_wp2
      go_quiet (fail)
      go_wp2
      go_ret
      obtain ⟨r0, r1⟩ := MB.out _ hm
      obtain ⟨f1, f2⟩ := next_fin0 _ HB.out HC.out p1 (show 0 ≤ (s * 48271 + 29) % 2147483647 by omega) (by omega)
      exact ⟨_, rfl, r0, fun _ => r1, fun h => by omega, f1, f2⟩
end Go.Proofs.Ytdhoiiejcmnmbaa
namespace Go.Proofs.Ytdhoiiejcmnmbaa
open Go.RowKit
set_option maxHeartbeats 2000000
set_option linter.unusedVariables false
set_option linter.unusedSimpArgs false
/-- a slice of bytes that came in -/
def Bytes (w : World) (a : Option Addr) (len : Nat) : Prop :=
  len ≤ 9223372036854775807 ∧ ∀ k, k < len → ∃ b off x, a = some ⟨b, off, none⟩ ∧ w.cell? ⟨b, off + k, none⟩ = some (.int .u8 x) ∧ 0 ≤ x ∧ x ≤ 255
theorem bytes_code {w w' : World} {a : Option Addr} {len : Nat} (h : Bytes w a len) (hb : Below w.heap.size w w') : Code8 w' w.heap.size a len := by
  refine ⟨h.1, fun k hk => ?_⟩
  obtain ⟨b, off, x, rfl, hc, h0, h1⟩ := h.2 k hk
  have hl := cell_lt hc
  exact ⟨b, off, x, rfl, by omega, by rw [hb.cell (p := ⟨b, off + k, none⟩) hl]; exact hc, h0, h1⟩
def Began (w : World) (a : Option Addr) (len cap : Nat) (e : Ending) (w' : World) : Prop :=
  e = .returned (.pointer (some ⟨w.heap.size, 0, none⟩)) ∧ Src w' w.heap.size a len cap ∧ w.heap.size < w'.heap.size ∧ Below w.heap.size w w'
theorem s_From (a : Option Addr) (len cap : Nat) (w : World) (hs : Bytes w a len) :
    Calls Try.prog 56 #[.slice a len cap] w (Began w a len cap) := by
  have HS := Lib.hid hs
  have hl := hs.1
  clear hs
  go_enter Try.func56, Try.ntmps56
  go_wp2
  go_loopw [4] (fun i wr => ∃ (k : Nat) (s : Int), k ≤ len ∧ i = .int .i64 k ∧ 0 ≤ s ∧ s < 2147483647 ∧ wr.heap[w.heap.size]? = some (.cells #[.slice a len cap, .int .i64 0, .int .i64 s] 115 (0, 0)) ∧ Below w.heap.size w wr) (fun i _ => len - (intOf i).toNat)
  case atStart => exact ⟨0, 52021, by omega, rfl, by omega, by omega, heap_alloc_new w _, (Below.refl _ _).alloc (Nat.le_refl _) _⟩
  case round =>
    obtain ⟨k, s, hk, rfl, s0, s1, hb, hB⟩ := hrel
    have HB := Lib.hid hb
    have HW := Lib.hid hB
    have c2 : wr.cell? ⟨w.heap.size, 2, none⟩ = some (.int .i64 s) := by simp [World.cell?, hb]
    have f2 : wr.frozen? ⟨w.heap.size, 2, none⟩ = false := by simp [World.frozen?, hb]
    clear hb hB
    by_cases hlt : k < len ∧ k < 64
    · obtain ⟨h1, h2⟩ := hlt
      obtain ⟨b, off, x, rfl, hx0, x0, x1⟩ := HS.out.2 k h1
      have hx : wr.cell? ⟨b, off + k, none⟩ = some (.int .u8 x) := by rw [HW.out.cell (p := ⟨b, off + k, none⟩) (cell_lt hx0)]; exact hx0
      clear hx0
      go_wp2
      go_region
      go_wp2
      go_roundw
      case rel => exact ⟨k + 1, (s * 59 + x) % 2147483647, by omega, by go_num, by omega, by omega, set2 HB.out, (HW.out.drew.setCell (Nat.le_refl _) _)⟩
      case measure => simp [intOf]; omega
    · by_cases h1 : k < len
      · have h2 : decide (k < 64) = false := by simp; omega
        have h3 : ¬ k < 64 := by omega
        clear hlt
        go_wp2
        go_ret
        exact ⟨rfl, ⟨⟨0, s, by omega, s0, s1, HB.out⟩, bytes_code HS.out HW.out⟩, cell_lt c2, HW.out⟩
      · clear hlt
        go_wp2
        go_ret
        exact ⟨rfl, ⟨⟨0, s, by omega, s0, s1, HB.out⟩, bytes_code HS.out HW.out⟩, cell_lt c2, HW.out⟩
/-- what a draw leaves: the source, and everything else as it was -/
def Drawn (w : World) (B : Nat) (a : Option Addr) (len cap : Nat) (P : Int → Prop) (e : Ending) (w' : World) : Prop :=
  ∃ r : Int, e = .returned (.int .i64 r) ∧ P r ∧ Src w' B a len cap ∧ w.grownBy w' (some B)
theorem Src.lt {w : World} {B : Nat} {a : Option Addr} {len cap : Nat} (h : Src w B a len cap) : B < w.heap.size := by
  obtain ⟨⟨p, s, _, _, _, hb⟩, _⟩ := h
  exact (Array.getElem?_eq_some_iff.1 hb).1
theorem Src.drewN {w : World} {B : Nat} {a : Option Addr} {len cap : Nat} (h : Src w B a len cap) (q : Nat) : Src (w.drewN q) B a len cap := h
theorem Src.alloc {w : World} {B : Nat} {a : Option Addr} {len cap : Nat} (h : Src w B a len cap) (o : Obj) : Src (w.alloc o) B a len cap := by
  have hB := h.lt
  obtain ⟨⟨p, s, h1, h2, h3, hb⟩, hc⟩ := h
  refine ⟨⟨p, s, h1, h2, h3, by rw [← hb]; exact Below.heap_alloc w o B hB⟩, hc.kept (World.grownBy_alloc w o _)⟩
/-- the source outlives writes to other blocks -/
theorem Src.kept {w w' : World} {B : Nat} {a : Option Addr} {len cap : Nat} {row : Option Nat} (h : Src w B a len cap) (hg : w.grownBy w' row) (hB : some B ≠ row) (hr : ∀ x, a = some x → some x.block ≠ row) : Src w' B a len cap := by
  have hlt := h.lt
  obtain ⟨⟨p, s, h1, h2, h3, hb⟩, hc⟩ := h
  refine ⟨⟨p, s, h1, h2, h3, by rw [← hb]; exact hg.block B hlt hB⟩, hc.1, fun k hk => ?_⟩
  obtain ⟨b, off, x, rfl, hne, hx, x0, x1⟩ := hc.2 k hk
  exact ⟨b, off, x, rfl, hne, hg.cell hx (hr ⟨b, off, none⟩ rfl), x0, x1⟩
theorem s_Pick (B : Nat) (a : Option Addr) (len cap : Nat) (b : Addr) (n m : Nat) (l : List Int) (w : World) (hs : Src w B a len cap) (hl : Sl w (some b) n l) (hb : b.block ≠ B) (hn : 1 ≤ n) :
    Calls Try.prog 61 #[.pointer (some ⟨B, 0, none⟩), .slice (some b) n m] w (Drawn w B a len cap (fun r => r ∈ l)) := by
  have HS := Lib.hid hs
  have HL := Lib.hid hl
  have HB := Lib.hid hb
  have hn2 := hl.2.1
  clear hs hl hb
  go_enter Try.func61, Try.ntmps61
  go_wp2_with fail
  refine (s_Next B a len cap n w HS.out (by omega) (by omega)).mono ?_
  rintro e w' ⟨r, rfl, r0, r1, r2, src, gr⟩
  have hr : r < n := by
    by_cases h : 1 < n
    · exact r1 (by omega)
    · have := r2 (by omega); omega
  obtain ⟨k, rfl⟩ := Int.eq_ofNat_of_zero_le r0
  have hk : k < n := by omega
  obtain ⟨bb, off, hbb, hc⟩ := HL.out.2.2.1 k hk
  simp only [Option.some.injEq] at hbb
  subst hbb
  have hc' : w'.cell? ⟨bb, off + k, none⟩ = some (.int .i64 (gx l k)) := gr.cell hc (by simpa using HB.out)
  have HG := Lib.hid gr; have HR := Lib.hid src
  have HM := Lib.hid (gx_mem l k (by rw [HL.out.1]; exact hk))
  clear gr src r1 r2 hc
  go_wp2
  go_ret
  exact ⟨_, rfl, HM.out, HR.out, HG.out⟩
theorem Src.kept2 {w w' : World} {B : Nat} {a : Option Addr} {len cap : Nat} {row : Option Nat} (h : Src w B a len cap) (hab : 0 < len → ∀ x, a = some x → x.block < B) (hg : w.grownBy w' row) (hr : ∀ k, row = some k → B < k) : Src w' B a len cap := by
  have hlt := h.lt
  obtain ⟨⟨p, s, h1, h2, h3, hb⟩, hc⟩ := h
  refine ⟨⟨p, s, h1, h2, h3, by rw [← hb]; exact hg.block B hlt (fun e => by have := hr B e.symm; omega)⟩, hc.1, fun k hk => ?_⟩
  obtain ⟨b, off, x, rfl, hne, hx, x0, x1⟩ := hc.2 k hk
  exact ⟨b, off, x, rfl, hne, hg.cell hx (fun e => by have := hr b e.symm; have := hab (by omega) ⟨b, off, none⟩ rfl; simp at this; omega), x0, x1⟩
theorem Bytes.low {w : World} {a : Option Addr} {len : Nat} (h : Bytes w a len) : 0 < len → ∀ x, a = some x → x.block < w.heap.size := by
  intro hl x hx
  obtain ⟨b, off, y, hb, hc, _⟩ := h.2 0 hl
  rw [hx] at hb; cases hb
  exact cell_lt hc
theorem Bytes.later {w w' : World} {a : Option Addr} {len : Nat} (h : Bytes w a len) (hb : Below w.heap.size w w') : Bytes w' a len := by
  refine ⟨h.1, fun k hk => ?_⟩
  obtain ⟨b, off, x, rfl, hc, x0, x1⟩ := h.2 k hk
  exact ⟨b, off, x, rfl, by rw [hb.cell (p := ⟨b, off + k, none⟩) (cell_lt hc)]; exact hc, x0, x1⟩
end Go.Proofs.Ytdhoiiejcmnmbaa
namespace Go.Proofs.Ytdhoiiejcmnmbaa
open Go.RowKit
set_option maxHeartbeats 2000000
set_option linter.unusedVariables false
set_option linter.unusedSimpArgs false
/-- a slice of integers that came in, as the shell of a proof says it -/
def IsRow (k : IntKind) (w : World) (a : Option Addr) (len cap : Nat) (zs : List Int) : Prop :=
  (a = none ∧ len = 0 ∧ cap = 0 ∧ zs = []) ∨
  ∃ x, a = some x ∧ len ≤ cap ∧ cap ≤ maxLen ∧ zs.length = cap ∧ (∀ i, i < zs.length → w.cell? (x.add i) = some (.int k (zs.getD i 0))) ∧ ∀ n ∈ zs, (Lit.int k n).wf = true
theorem isRow_sl {w : World} {a : Option Addr} {len cap : Nat} {zs : List Int} (h : IsRow .i64 w a len cap zs) : Sl w a len (zs.take len) := by
  rcases h with ⟨rfl, rfl, rfl, rfl⟩ | ⟨x, rfl, hl, hm, hz, hc, hw⟩
  · exact ⟨rfl, by omega, fun k hk => absurd hk (by omega), fun x hx => by simp at hx⟩
  · unfold maxLen at hm
    refine ⟨by rw [List.length_take]; omega, by omega, fun k hk => ?_, fun y hy => ?_⟩
    · have h0 := hc 0 (by omega)
      have hk0 := hc k (by omega)
      obtain ⟨b, off, spot⟩ := x
      have hspot : spot = none := by simpa [Addr.add] using World.cell?_spot h0
      subst hspot
      rw [Addr.add_lit] at hk0
      exact ⟨b, off, rfl, by rw [gx_take _ _ _ hk]; exact hk0⟩
    · have := hw y (List.mem_of_mem_take hy)
      simp [Lit.wf, IntKind.min, IntKind.max, IntKind.signed, IntKind.bits] at this
      exact this
theorem isRow_bytes {w : World} {a : Option Addr} {len cap : Nat} {zs : List Int} (h : IsRow .u8 w a len cap zs) : Bytes w a len := by
  rcases h with ⟨rfl, rfl, rfl, rfl⟩ | ⟨x, rfl, hl, hm, hz, hc, hw⟩
  · exact ⟨by omega, fun k hk => absurd hk (by omega)⟩
  · unfold maxLen at hm
    refine ⟨by omega, fun k hk => ?_⟩
    have h0 := hc 0 (by omega)
    have hk0 := hc k (by omega)
    obtain ⟨b, off, spot⟩ := x
    have hspot : spot = none := by simpa [Addr.add] using World.cell?_spot h0
    subst hspot
    rw [Addr.add_lit] at hk0
    have hb := hw (zs.getD k 0) (show gx zs k ∈ zs from gx_mem zs k (by omega))
    simp [Lit.wf, IntKind.min, IntKind.max, IntKind.signed, IntKind.bits] at hb
    exact ⟨b, off, zs.getD k 0, rfl, hk0, by simpa using hb.1, by simpa using hb.2⟩
end Go.Proofs.Ytdhoiiejcmnmbaa
namespace Go.Proofs.Ytdhoiiejcmnmbaa
open Go.RowKit Go.ChangeShapes Go.WideShapes Go.Deep
set_option maxHeartbeats 2000000
set_option maxRecDepth 100000
set_option linter.unusedVariables false
set_option linter.unusedSimpArgs false
section
variable {H : Type} {enc : TypeId × Value → H} {w : World} {base : Nat} {spare : Nat → Bool} {held : Bool}
theorem one_at {cs : List Value} {o : Nat} {v : Value} (h : (cs.drop o).take 1 = [v]) : cs[o]? = some v := by
  have := congrArg (fun l => l[0]?) h
  simpa using this
theorem two_at {cs : List Value} {o : Nat} {u v : Value} (h : (cs.drop o).take 2 = [u, v]) : cs[o]? = some u ∧ cs[o + 1]? = some v := by
  have h0 := congrArg (fun l => l[0]?) h
  have h1 := congrArg (fun l => l[1]?) h
  exact ⟨by simpa using h0, by simpa using h1⟩
theorem cells_i64 : Try.prog.cellsOf 2 = 1 := by kernel_rfl
theorem cells_liv : Try.prog.cellsOf 53 = 2 := by kernel_rfl
theorem cells_lseg : Try.prog.cellsOf 55 = 7 := by kernel_rfl
theorem i64_of_wf {a : Int} (h : (Lit.int .i64 a).wf = true) : -9223372036854775808 ≤ a ∧ a ≤ 9223372036854775807 := by
  simpa [Lit.wf, IntKind.min, IntKind.max, IntKind.signed, IntKind.bits] using h
theorem fld_int {n : Nat} {cs : List Value} {y : DataW H × List MemPlace} (h : DataW.trod enc Try.prog w base spare held n 2 cs = some y) : ∃ a : Int, cs = [.int .i64 a] ∧ -9223372036854775808 ≤ a ∧ a ≤ 9223372036854775807 := by
  obtain ⟨a, e, _, hw⟩ := DataW.trod_int Try.underlying2 h
  exact ⟨a, e, i64_of_wf hw⟩
theorem fld_iv {n : Nat} {cs : List Value} {y : DataW H × List MemPlace} (h : DataW.trod enc Try.prog w base spare held n 53 cs = some y) :
    ∃ a b : Int, cs = [.int .i64 a, .int .i64 b] ∧ (-9223372036854775808 ≤ a ∧ a ≤ 9223372036854775807) ∧ (-9223372036854775808 ≤ b ∧ b ≤ 9223372036854775807) := by
  obtain ⟨xs, m, _, _, hl, hlen, hf⟩ := DataW.trod_struct Try.underlying53 h
  rw [cells_liv] at hl
  have h0 := hf 0 _ rfl
  have h1 := hf 1 _ rfl
  rw [List.getElem?_eq_getElem (by rw [hlen]; decide)] at h0 h1
  obtain ⟨a, ea, ra⟩ := fld_int h0
  obtain ⟨b, eb, rb⟩ := fld_int h1
  have ea : (cs.drop 0).take (Try.prog.cellsOf 2) = [.int .i64 a] := ea
  have eb : (cs.drop 1).take (Try.prog.cellsOf 2) = [.int .i64 b] := eb
  rw [cells_i64] at ea eb
  have ea := one_at ea; have eb := one_at eb
  match cs, hl with
  | [c0, c1], _ =>
    simp at ea eb
    exact ⟨a, b, by rw [ea, eb], ra, rb⟩
theorem fld_seg {n : Nat} {cs : List Value} {y : DataW H × List MemPlace} (h : DataW.trod enc Try.prog w base spare held n 55 cs = some y) :
    ∃ x : Sg, cs = [.int .i64 x.k, .int .i64 x.l, .int .i64 x.r, .int .i64 x.a, .int .i64 x.b, .int .i64 x.c, .int .i64 x.d] ∧ x.In := by
  obtain ⟨xs, m, _, _, hl, hlen, hf⟩ := DataW.trod_struct Try.underlying55 h
  rw [cells_lseg] at hl
  have h0 := hf 0 _ rfl
  have h1 := hf 1 _ rfl
  have h2 := hf 2 _ rfl
  have h3 := hf 3 _ rfl
  have h4 := hf 4 _ rfl
  rw [List.getElem?_eq_getElem (by rw [hlen]; decide)] at h0 h1 h2 h3 h4
  obtain ⟨k, ek, rk⟩ := fld_int h0
  obtain ⟨l, el, rl⟩ := fld_int h1
  obtain ⟨r, er, rr⟩ := fld_int h2
  obtain ⟨a, b, eab, ra, rb⟩ := fld_iv h3
  obtain ⟨c, d, ecd, rc, rd⟩ := fld_iv h4
  have ek : (cs.drop 0).take (Try.prog.cellsOf 2) = [.int .i64 k] := ek
  have el : (cs.drop 1).take (Try.prog.cellsOf 2) = [.int .i64 l] := el
  have er : (cs.drop 2).take (Try.prog.cellsOf 2) = [.int .i64 r] := er
  have eab : (cs.drop 3).take (Try.prog.cellsOf 53) = [.int .i64 a, .int .i64 b] := eab
  have ecd : (cs.drop 5).take (Try.prog.cellsOf 53) = [.int .i64 c, .int .i64 d] := ecd
  rw [cells_i64] at ek el er
  rw [cells_liv] at eab ecd
  have ek := one_at ek; have el := one_at el; have er := one_at er
  obtain ⟨ea, eb⟩ := two_at eab
  obtain ⟨ec, ed⟩ := two_at ecd
  match cs, hl with
  | [c0, c1, c2, c3, c4, c5, c6], _ =>
    simp at ek el er ea eb ec ed
    refine ⟨⟨k, l, r, a, b, c, d⟩, by rw [ek, el, er, ea, eb, ec, ed], fun j => ?_⟩
    unfold Sg.at
    split <;> assumption
/-- a segment that came in -/
theorem open_segment {r : Reach} {b0 : Nat} {v : Value} {d : DataW H} {p : List MemPlace} (hv : Value.okWide Try.prog w r b0 55 v) (h : DataW.Trod enc Try.prog w base spare held 55 v d p) :
    ∃ x : Sg, v = .agg #[.int .i64 x.k, .int .i64 x.l, .int .i64 x.r, .int .i64 x.a, .int .i64 x.b, .int .i64 x.c, .int .i64 x.d] ∧ x.In := by
  obtain ⟨cs, rfl, hsz⟩ := okWide_struct Try.underlying55 hv
  obtain ⟨fuel, hf⟩ := h
  obtain ⟨x, e, hx⟩ := fld_seg hf
  refine ⟨x, ?_, hx⟩
  have e' : cs.toList = _ := e
  rw [← Array.toArray_toList (xs := cs), e']
/-- a slice of segments that came in -/
theorem fld_segs {fuel : Nat} {cs : List Value} {y : DataW H × List MemPlace} (hsp : ∀ b, spare b = true) (h : DataW.trod enc Try.prog w base spare held fuel 39 cs = some y) :
    ∃ (A : Option Addr) (len cap : Nat) (L : List Sg), cs = [.slice A len cap] ∧ len ≤ cap ∧ Sgs w A len L := by
  rcases open_slice Try.underlying39 h with ⟨e, _⟩ | ⟨a, len, cap, m, n, D, Pl, e, hb, hl, hm, hmm, _, hi⟩
  · exact ⟨none, 0, 0, [], e, Nat.le_refl _, Sgs.nil w none⟩
  · rw [hsp, if_pos rfl] at hmm
    have hlm : len ≤ m := by omega
    have key : ∀ i : Nat, ∃ x : Sg, i < len → (∀ j, j < 7 → w.cell? (a.add (i * 7 + j)) = some (.int .i64 (x.at j))) ∧ x.In := by
      intro i
      by_cases hlt : i < len
      · obtain ⟨cs', hc, ht⟩ := hi i (by omega)
        rw [cells_lseg] at hc
        obtain ⟨_, hcl, hat⟩ := World.cells?_some hc
        obtain ⟨x, ex, hx⟩ := fld_seg ht
        refine ⟨x, fun _ => ⟨fun j hj => ?_, hx⟩⟩
        have h1 := hat j hj
        rw [Go.Deep.add_add] at h1
        rw [h1, ex]
        have hj' : j = 0 ∨ j = 1 ∨ j = 2 ∨ j = 3 ∨ j = 4 ∨ j = 5 ∨ j = 6 := by omega
        rcases hj' with rfl | rfl | rfl | rfl | rfl | rfl | rfl <;> rfl
      · exact ⟨sg0, fun hh => absurd hh hlt⟩
    obtain ⟨f, hf⟩ := Classical.axiomOfChoice key
    refine ⟨some a, len, cap, (List.range len).map f, e, hl, by simp, by unfold maxLen at hm; omega, fun k hk => ?_, fun x hx => ?_⟩
    · have h0 := (hf 0 (by omega)).1 0 (by omega)
      obtain ⟨b, off, spot⟩ := a
      have hspot : spot = none := by simpa [Addr.add] using World.cell?_spot h0
      subst hspot
      refine ⟨b, off, rfl, fun j hj => ?_⟩
      have h1 := (hf k hk).1 j hj
      rw [Addr.add_lit] at h1
      rw [show off + k * 7 + j = off + (k * 7 + j) by omega, h1]
      simp [sx, hk]
    · obtain ⟨i, hi', rfl⟩ := List.mem_map.1 hx
      exact (hf i (List.mem_range.1 hi')).2
/-- a layout that came in -/
theorem open_layout {r : Reach} {b0 : Nat} {v : Value} {d : DataW H} {p : List MemPlace} (hsp : ∀ b, spare b = true) (hv : Value.okWide Try.prog w r b0 41 v) (h : DataW.Trod enc Try.prog w base spare held 41 v d p) :
    ∃ (A : Option Addr) (len cap : Nat) (L : List Sg), v = .agg #[.slice A len cap] ∧ len ≤ cap ∧ Sgs w A len L := by
  obtain ⟨cs, rfl, hsz⟩ := okWide_struct Try.underlying41 hv
  obtain ⟨fuel, hf⟩ := h
  obtain ⟨xs, m, _, _, hl, hlen, hff⟩ := DataW.trod_struct Try.underlying41 hf
  rw [show Try.prog.cellsOf 41 = 1 by kernel_rfl] at hsz
  have h0 := hff 0 _ rfl
  rw [List.getElem?_eq_getElem (by rw [hlen]; decide)] at h0
  obtain ⟨A, len, cap, L, e, hc, hs⟩ := fld_segs hsp h0
  refine ⟨A, len, cap, L, ?_, hc, hs⟩
  have e : (cs.toList.drop 0).take (Try.prog.cellsOf 39) = [.slice A len cap] := e
  rw [show Try.prog.cellsOf 39 = 1 by kernel_rfl] at e
  have e' := one_at e
  obtain ⟨l⟩ := cs
  match l, hsz with
  | [c0], _ =>
    simp at e'
    rw [e']
end
end Go.Proofs.Ytdhoiiejcmnmbaa
namespace Go.Proofs.Ytdhoiiejcmnmbaa
open Go.RowKit
set_option maxHeartbeats 2000000
set_option linter.unusedVariables false
set_option linter.unusedSimpArgs false
theorem s_In' (n a b : Int) (w : World) : Calls Try.prog 69 #[.int .i64 n, .int .i64 a, .int .i64 b] w fun e w' => e = .returned (.bool (decide (a ≤ n) && decide (n ≤ b))) ∧ w' = w := (s_In n a b w).mono fun _ _ ⟨h, k⟩ => ⟨h, k.symm⟩
def absI (n : Int) : Int := if n < 0 then -n else n
theorem s_Abs' (n : Int) (w : World) (h0 : -1000000000000 ≤ n) (h1 : n ≤ 1000000000000) : Calls Try.prog 106 #[.int .i64 n] w fun e w' => e = .returned (.int .i64 (absI n)) ∧ w' = w := by
  go_enter Try.func106, Try.ntmps106
  go_wp2
  all_goals
    go_ret
    exact ⟨ret_i64 (by unfold absI; omega), rfl⟩
theorem win_eq (n a b : Int) (h0 : 0 ≤ n) (h1 : n ≤ 20000) : (ivB a b && decide (n ≤ a) && decide (b ≤ 20000)) = rngB n a b := by
  rw [Bool.eq_iff_iff]
  unfold rngB
  simp [ivB_iff]
  omega
theorem s_Within (n a b : Int) (h0 : 0 ≤ n) (h1 : n ≤ 20000) (w : World) :
    Calls Try.prog 107 #[.agg #[.int .i64 a, .int .i64 b], .int .i64 n, .int .i64 20000] w fun e w' => e = .returned (.bool (rngB n a b)) ∧ Later w w' := by
  have E := Lib.hid (win_eq n a b h0 h1)
  clear h0 h1
  cases h : ivB a b
  all_goals
    go_enter Try.func107, Try.ntmps107
    go_wp2_with (go_at_call 126; refine (s_IsInterval _ _ _).mono ?_; rintro e w1 ⟨rfl, hb⟩; obtain ⟨H, hcc, hff, hzz⟩ := later_facts hb; clear hb; (try simp at hzz); (try simp only [World.heap_drewN, World.cell?_drewN, World.frozen?_drewN] at hcc hff); have hz0 : w.heap.size < w1.heap.size := (by omega))
    all_goals
      go_ret
      exact ⟨ret_b (by rw [← E.out, h]; first | (simp_all; done) | (simp_all; omega)), (by repeat (first | exact Later.refl _ | refine Later.alloc ?_ _ | refine Later.drewN ?_ _ | refine Later.drew ?_ | refine Later.trans ?_ (Hid.out (by assumption))))⟩
theorem s_IsSegment (x : Sg) (w : World) : Calls Try.prog 67 #[.agg #[.int .i64 x.k, .int .i64 x.l, .int .i64 x.r, .int .i64 x.a, .int .i64 x.b, .int .i64 x.c, .int .i64 x.d]] w fun e w' => e = .returned (.bool (sgB x)) ∧ Later w w' := by
  by_cases hk : 0 ≤ x.k ∧ x.k ≤ 4
  · by_cases hl : 1 ≤ x.l ∧ x.l ≤ 200000
    · by_cases hr : -100000 ≤ x.r ∧ x.r ≤ 100000
      · by_cases ha : absI x.r ≤ x.l
        · have ha0 : ¬ (absI x.r > x.l) := by omega
          have S0 : Hid (sgB x = (rngB 0 x.a x.b && frcB x.k x.c x.d)) := Lib.hid (by
            have q1 : kndB x.k = true := by unfold kndB; simp [hk]
            have q2 : lenB x.l = true := by unfold lenB; simp [hl]
            have q3 : slpB x.r x.l = true := by unfold absI at ha; unfold slpB; simp [hr]; split at ha <;> omega
            unfold sgB; rw [q1, q2, q3]; simp)
          obtain ⟨k1, k2⟩ := hk; obtain ⟨l1, l2⟩ := hl; obtain ⟨r1, r2⟩ := hr
          by_cases h0 : x.k = 0
          · have F : Hid (frcB x.k x.c x.d = (decide (x.c = 0) && decide (x.d = 0))) := Lib.hid (by unfold frcB; rw [if_pos h0])
            have e0 : (x.k == 0) = true := by simp [h0]
            cases h1 : rngB 0 x.a x.b
            all_goals
              go_enter Try.func67, Try.ntmps67
              go_wp2_with fail
              go_quiet ((first
      | (go_at_call 69; exact Calls.quiet_of_same (s_In' _ _ _ _))
      | (go_at_call 106; exact Calls.quiet_of_same (s_Abs' _ _ (by omega) (by omega)))))
              go_wp2_with (go_at_call 107; refine (s_Within _ _ _ (by omega) (by omega) _).mono ?_; rintro e w1 ⟨rfl, hb⟩; obtain ⟨H, hcc, hff, hzz⟩ := later_facts hb; clear hb; (try simp at hzz); (try simp only [World.heap_drewN, World.cell?_drewN, World.frozen?_drewN] at hcc hff); have hz0 : w.heap.size < w1.heap.size := (by omega))
              all_goals
                go_ret
                exact ⟨ret_b (by rw [S0.out, F.out, h1]; first | (simp_all; done) | (simp_all; omega)), (by repeat (first | exact Later.refl _ | refine Later.alloc ?_ _ | refine Later.drewN ?_ _ | refine Later.drew ?_ | refine Later.trans ?_ (Hid.out (by assumption))))⟩

          · have F : Hid (frcB x.k x.c x.d = rngB 1 x.c x.d) := Lib.hid (by unfold frcB; rw [if_neg h0])
            have e0 : (x.k == 0) = false := by simp [h0]
            cases h1 : rngB 0 x.a x.b
            all_goals
              go_enter Try.func67, Try.ntmps67
              go_wp2_with fail
              go_quiet ((first
      | (go_at_call 69; exact Calls.quiet_of_same (s_In' _ _ _ _))
      | (go_at_call 106; exact Calls.quiet_of_same (s_Abs' _ _ (by omega) (by omega)))))
              go_wp2_with (go_at_call 107; refine (s_Within _ _ _ (by omega) (by omega) _).mono ?_; rintro e w1 ⟨rfl, hb⟩; obtain ⟨H, hcc, hff, hzz⟩ := later_facts hb; clear hb; (try simp at hzz); (try simp only [World.heap_drewN, World.cell?_drewN, World.frozen?_drewN] at hcc hff); have hz0 : w.heap.size < w1.heap.size := (by omega))
              all_goals
                go_ret
                exact ⟨ret_b (by rw [S0.out, F.out, h1]; simp), (by repeat (first | exact Later.refl _ | refine Later.alloc ?_ _ | refine Later.drewN ?_ _ | refine Later.drew ?_ | refine Later.trans ?_ (Hid.out (by assumption))))⟩

        · have S0 : Hid (sgB x = false) := Lib.hid (by
            have q3 : slpB x.r x.l = false := by unfold absI at ha; unfold slpB; simp [hr]; intros; split at ha <;> omega
            unfold sgB; rw [q3]; simp)
          have ha0 : absI x.r > x.l := by omega
          obtain ⟨k1, k2⟩ := hk; obtain ⟨l1, l2⟩ := hl; obtain ⟨r1, r2⟩ := hr
          go_enter Try.func67, Try.ntmps67
          go_wp2_with fail
          go_quiet ((first
      | (go_at_call 69; exact Calls.quiet_of_same (s_In' _ _ _ _))
      | (go_at_call 106; exact Calls.quiet_of_same (s_Abs' _ _ (by omega) (by omega)))))
          go_wp2_with (go_at_call 107; refine (s_Within _ _ _ (by omega) (by omega) _).mono ?_; rintro e w1 ⟨rfl, hb⟩; obtain ⟨H, hcc, hff, hzz⟩ := later_facts hb; clear hb; (try simp at hzz); (try simp only [World.heap_drewN, World.cell?_drewN, World.frozen?_drewN] at hcc hff); have hz0 : w.heap.size < w1.heap.size := (by omega))
          all_goals
            go_ret
            exact ⟨ret_b (by rw [S0.out]), (by repeat (first | exact Later.refl _ | refine Later.alloc ?_ _ | refine Later.drewN ?_ _ | refine Later.drew ?_ | refine Later.trans ?_ (Hid.out (by assumption))))⟩

      · have S0 : Hid (sgB x = false) := Lib.hid (by rw [sgB_no]; omega)
        have c3 : (decide (-100000 ≤ x.r) && decide (x.r ≤ 100000)) = false := by simpa using hr
        obtain ⟨k1, k2⟩ := hk; obtain ⟨l1, l2⟩ := hl
        go_enter Try.func67, Try.ntmps67
        go_wp2_with fail
        go_quiet ((first
      | (go_at_call 69; exact Calls.quiet_of_same (s_In' _ _ _ _))
      | (go_at_call 106; exact Calls.quiet_of_same (s_Abs' _ _ (by omega) (by omega)))))
        go_wp2_with (go_at_call 107; refine (s_Within _ _ _ (by omega) (by omega) _).mono ?_; rintro e w1 ⟨rfl, hb⟩; obtain ⟨H, hcc, hff, hzz⟩ := later_facts hb; clear hb; (try simp at hzz); (try simp only [World.heap_drewN, World.cell?_drewN, World.frozen?_drewN] at hcc hff); have hz0 : w.heap.size < w1.heap.size := (by omega))
        all_goals
          go_ret
          exact ⟨ret_b (by rw [S0.out]), (by repeat (first | exact Later.refl _ | refine Later.alloc ?_ _ | refine Later.drewN ?_ _ | refine Later.drew ?_ | refine Later.trans ?_ (Hid.out (by assumption))))⟩

    · have S0 : Hid (sgB x = false) := Lib.hid (by rw [sgB_no]; omega)
      have c2 : (decide (1 ≤ x.l) && decide (x.l ≤ 200000)) = false := by simpa using hl
      obtain ⟨k1, k2⟩ := hk
      go_enter Try.func67, Try.ntmps67
      go_wp2_with fail
      go_quiet ((first
      | (go_at_call 69; exact Calls.quiet_of_same (s_In' _ _ _ _))
      | (go_at_call 106; exact Calls.quiet_of_same (s_Abs' _ _ (by omega) (by omega)))))
      go_wp2_with (go_at_call 107; refine (s_Within _ _ _ (by omega) (by omega) _).mono ?_; rintro e w1 ⟨rfl, hb⟩; obtain ⟨H, hcc, hff, hzz⟩ := later_facts hb; clear hb; (try simp at hzz); (try simp only [World.heap_drewN, World.cell?_drewN, World.frozen?_drewN] at hcc hff); have hz0 : w.heap.size < w1.heap.size := (by omega))
      all_goals
        go_ret
        exact ⟨ret_b (by rw [S0.out]), (by repeat (first | exact Later.refl _ | refine Later.alloc ?_ _ | refine Later.drewN ?_ _ | refine Later.drew ?_ | refine Later.trans ?_ (Hid.out (by assumption))))⟩

  · have S0 : Hid (sgB x = false) := Lib.hid (by rw [sgB_no]; omega)
    have c1 : (decide (0 ≤ x.k) && decide (x.k ≤ 4)) = false := by simpa using hk
    go_enter Try.func67, Try.ntmps67
    go_wp2_with fail
    go_quiet ((first
      | (go_at_call 69; exact Calls.quiet_of_same (s_In' _ _ _ _))
      | (go_at_call 106; exact Calls.quiet_of_same (s_Abs' _ _ (by omega) (by omega)))))
    go_wp2_with (go_at_call 107; refine (s_Within _ _ _ (by omega) (by omega) _).mono ?_; rintro e w1 ⟨rfl, hb⟩; obtain ⟨H, hcc, hff, hzz⟩ := later_facts hb; clear hb; (try simp at hzz); (try simp only [World.heap_drewN, World.cell?_drewN, World.frozen?_drewN] at hcc hff); have hz0 : w.heap.size < w1.heap.size := (by omega))
    all_goals
      go_ret
      exact ⟨ret_b (by rw [S0.out]), (by repeat (first | exact Later.refl _ | refine Later.alloc ?_ _ | refine Later.drewN ?_ _ | refine Later.drew ?_ | refine Later.trans ?_ (Hid.out (by assumption))))⟩

end Go.Proofs.Ytdhoiiejcmnmbaa
namespace Go.Proofs.Ytdhoiiejcmnmbaa
open Go.RowKit
set_option maxHeartbeats 2000000
set_option linter.unusedVariables false
set_option linter.unusedSimpArgs false
theorem s_l03Holds (x : Sg) (w : World) : Calls Try.prog 134 #[.agg #[.int .i64 x.k, .int .i64 x.l, .int .i64 x.r, .int .i64 x.a, .int .i64 x.b, .int .i64 x.c, .int .i64 x.d]] w fun e w' => e = .returned (.bool (decide (x.k = 1) || decide (x.k = 3) || decide (x.k = 4))) ∧ Later w w' := by
  have key : ∀ p q r : Bool, decide (x.k = 1) = p → decide (x.k = 3) = q → decide (x.k = 4) = r → Hid ((decide (x.k = 1) || decide (x.k = 3) || decide (x.k = 4)) = (p || q || r)) := by
    rintro p q r rfl rfl rfl; exact Lib.hid rfl
  cases h1 : decide (x.k = 1) <;> cases h3 : decide (x.k = 3) <;> cases h4 : decide (x.k = 4)
  all_goals
    have K := key _ _ _ h1 h3 h4
    clear key
    have e1 := (show (x.k == 1) = decide (x.k = 1) from rfl).trans h1
    have e3 := (show (x.k == 3) = decide (x.k = 3) from rfl).trans h3
    have e4 := (show (x.k == 4) = decide (x.k = 4) from rfl).trans h4
    clear h1 h3 h4
    go_enter Try.func134, Try.ntmps134
    go_wp2
    go_ret
    exact ⟨ret_b (by first | rfl | (rw [K.out]; rfl)), (by repeat (first | exact Later.refl _ | refine Later.alloc ?_ _ | refine Later.drewN ?_ _ | refine Later.drew ?_ | refine Later.trans ?_ (Hid.out (by assumption))))⟩
end Go.Proofs.Ytdhoiiejcmnmbaa
namespace Go.Proofs.Ytdhoiiejcmnmbaa
open Go.RowKit
set_option maxHeartbeats 2000000
set_option linter.unusedVariables false
set_option linter.unusedSimpArgs false
set_option maxRecDepth 100000 in
theorem s_IsLayout (a : Option Addr) (n cap : Nat) (L : List Sg) (w : World) (hs : Sgs w a n L) :
    Calls Try.prog 78 #[.agg #[.slice a n cap]] w fun e w' => e = .returned (.bool (layB L)) ∧ Later w w' := by
  have HS := Lib.hid hs
  have HL := Lib.hid hs.1
  have hn := hs.2.1
  clear hs
  by_cases h : 3 ≤ n ∧ n ≤ 24
  · obtain ⟨h1, h2⟩ := h
    go_enter Try.func78, Try.ntmps78
    go_wp2_with fail
    go_loopw [4, 5] (fun hh i wr => ∃ k : Nat, k ≤ n ∧ i = .int .i64 k ∧ hh = .int .i64 (upR L k) ∧ okB L k = true ∧ wr.cell? ⟨w.heap.size, 0, none⟩ = some (.slice a n cap) ∧ w.heap.size < wr.heap.size ∧ Later w wr) (fun _ i _ => n - (intOf i).toNat)
    case atStart => exact ⟨0, by omega, rfl, by rw [upR_0], okB_0 L, by simp, by simp, (Later.refl _).alloc _⟩
    case round =>
      obtain ⟨k, hk, rfl, rfl, hok, cb, hsz, hlw⟩ := hrel
      have HO := Lib.hid hok; have HW := Lib.hid hlw
      clear hok hlw
      obtain ⟨bd1, bd2, _, _⟩ := up_bd L k (by rw [HL.out]; exact hk) HO.out
      by_cases hlt : k < n
      · obtain ⟨b', off', rfl, hb', hc⟩ := (HS.out.later HW.out).at k hlt
        obtain ⟨c0, c1, c2, c3, c4, c5, c6⟩ := hc
        cases hv : sgB (sx L k)
        · have HV := Lib.hid (layB_bad HL.out hlt hv)
          go_wp2_with (go_at_call 67; refine (s_IsSegment (sx L k) _).mono ?_; rintro e w1 ⟨rfl, hb⟩; obtain ⟨H, hcc, hff, hzz⟩ := later_facts hb; clear hb; (try simp at hzz); (try simp only [World.heap_drewN, World.cell?_drewN, World.frozen?_drewN] at hcc hff))
          go_ret
          exact ⟨ret_b (by rw [HV.out]), (by repeat (first | exact Later.refl _ | exact Hid.out (by assumption) | refine Later.set_at ?_ ?_ _ _ | refine Later.alloc ?_ _ | refine Later.drewN ?_ _ | refine Later.drew ?_ | refine Later.trans ?_ (Hid.out (by assumption))))⟩
        · have HV := Lib.hid hv
          have hr := (sgB_iff _).1 hv
          have r1 := hr.2.2.1.1; have r2 := hr.2.2.1.2.1
          clear hr
          go_wp2_with (go_at_call 67; refine (s_IsSegment (sx L k) _).mono ?_; rintro e w1 ⟨rfl, hb⟩; obtain ⟨H, hcc, hff, hzz⟩ := later_facts hb; clear hb; (try simp at hzz); (try simp only [World.heap_drewN, World.cell?_drewN, World.frozen?_drewN] at hcc hff))
          go_roundw
          case rel => exact ⟨k + 1, by omega, by go_num, by rw [upR_succ L k (by rw [HL.out]; exact hlt)], by rw [okB_succ L k (by rw [HL.out]; exact hlt), HO.out, HV.out]; rfl, by rw [hcc _ _ hsz]; exact cb, by omega, (by repeat (first | exact Later.refl _ | exact Hid.out (by assumption) | refine Later.set_at ?_ ?_ _ _ | refine Later.alloc ?_ _ | refine Later.drewN ?_ _ | refine Later.drew ?_ | refine Later.trans ?_ (Hid.out (by assumption))))⟩
          case measure => simp [intOf]; omega
      · obtain rfl : k = n := by omega
        obtain ⟨b', off', rfl, hb', hc⟩ := (HS.out.later HW.out).at (k - 1) (by omega)
        obtain ⟨c0, c1, c2, c3, c4, c5, c6⟩ := hc
        clear bd1 bd2
        by_cases hr0 : upR L k = 0
        · have er : (upR L k == 0) = true := by simpa using hr0
          by_cases h4 : (sx L (k - 1)).k = 4
          · have e4 : ((sx L (k - 1)).k == 4) = true := by simpa using h4
            have HF : Hid (layB L = true) := Lib.hid (by rw [layB_fin HL.out h1 h2 h4 HO.out, hr0]; simp)
            clear hr0 h4
            go_wp2
            go_ret
            exact ⟨ret_b (by rw [HF.out]), (by repeat (first | exact Later.refl _ | exact Hid.out (by assumption) | refine Later.set_at ?_ ?_ _ _ | refine Later.alloc ?_ _ | refine Later.drewN ?_ _ | refine Later.drew ?_ | refine Later.trans ?_ (Hid.out (by assumption))))⟩
          · have e4 : ((sx L (k - 1)).k == 4) = false := by simpa using h4
            have HF : Hid (layB L = false) := Lib.hid (layB_last HL.out h4)
            clear hr0 h4
            go_wp2
            go_ret
            exact ⟨ret_b (by rw [HF.out]), (by repeat (first | exact Later.refl _ | exact Hid.out (by assumption) | refine Later.set_at ?_ ?_ _ _ | refine Later.alloc ?_ _ | refine Later.drewN ?_ _ | refine Later.drew ?_ | refine Later.trans ?_ (Hid.out (by assumption))))⟩
        · have er : (upR L k == 0) = false := by simpa using hr0
          have HF : Hid (layB L = false) := Lib.hid (by rw [layB_no]; rintro ⟨_, _, _, e, _⟩; rw [HL.out] at e; exact hr0 e)
          clear hr0
          go_wp2
          go_ret
          exact ⟨ret_b (by rw [HF.out]), (by repeat (first | exact Later.refl _ | exact Hid.out (by assumption) | refine Later.set_at ?_ ?_ _ _ | refine Later.alloc ?_ _ | refine Later.drewN ?_ _ | refine Later.drew ?_ | refine Later.trans ?_ (Hid.out (by assumption))))⟩
  · have HF := Lib.hid (layB_len HL.out h)
    have hn : n < 3 ∨ 24 < n := by omega
    clear h
    rcases hn with hn | hn
    all_goals
      go_enter Try.func78, Try.ntmps78
      go_wp2_with fail
      go_ret
      exact ⟨ret_b (by rw [HF.out]), (by repeat (first | exact Later.refl _ | exact Hid.out (by assumption) | refine Later.set_at ?_ ?_ _ _ | refine Later.alloc ?_ _ | refine Later.drewN ?_ _ | refine Later.drew ?_ | refine Later.trans ?_ (Hid.out (by assumption))))⟩
end Go.Proofs.Ytdhoiiejcmnmbaa
namespace Go.Proofs.Ytdhoiiejcmnmbaa
open Go.RowKit
set_option maxHeartbeats 2000000
set_option linter.unusedVariables false
set_option linter.unusedSimpArgs false
end Go.Proofs.Ytdhoiiejcmnmbaa
namespace Go.Proofs.Ytdhoiiejcmnmbaa
open Go.RowKit
set_option maxHeartbeats 2000000
set_option linter.unusedVariables false
set_option linter.unusedSimpArgs false
theorem s_Floor (a b : Int) (w : World) (h1 : -1000000000000 ≤ a) (h2 : a ≤ 1000000000000) (h3 : -1000000000000 ≤ b) (h4 : b ≤ 1000000000000) (h0 : b ≠ 0) :
    Calls Try.prog 75 #[.int .i64 a, .int .i64 b] w fun e w' => e = .returned (.int .i64 (flo a b)) ∧ w = w' := by
  have hb := tdiv_bd a b _ h1 h2
  go_enter Try.func75, Try.ntmps75
  go_wp2
  all_goals
    go_ret
    exact ⟨ret_i64 (by unfold flo; simp_all), rfl⟩
theorem i_divisionError (a b : Int) (w : World) : Calls Try.prog 105 #[.int .i64 a, .int .i64 b] w fun e w' => e = .returned (.int .i64 (divErr a b)) ∧ w = w' := by
  go_enter Try.func105, Try.ntmps105
  go_wp2_with (go_at_call 125; refine (i_isValue _ _).mono ?_; rintro e w' ⟨rfl, rfl⟩)
  all_goals
    go_ret
    exact ⟨ret_i64 (by unfold divErr; simp_all), rfl⟩
theorem divErr_0 (a b : Int) (h : divErr a b = 0) : -1000000000000 ≤ a ∧ a ≤ 1000000000000 ∧ -1000000000000 ≤ b ∧ b ≤ 1000000000000 ∧ b ≠ 0 := by
  unfold divErr at h
  split at h
  · omega
  · rename_i h1
    have h2 : isVB a = true ∧ isVB b = true := by simpa using h1
    rw [isVB_iff, isVB_iff] at h2
    split at h <;> omega
end Go.Proofs.Ytdhoiiejcmnmbaa
namespace Go.Proofs.Ytdhoiiejcmnmbaa
open Go.RowKit
set_option maxHeartbeats 2000000
set_option linter.unusedVariables false
set_option linter.unusedSimpArgs false
theorem ret_3i' {a b c d e f : Int} (h : a = d) (k : b = e) (l : c = f) : Ending.returned (.tuple #[.int .i64 a, .int .i64 b, .int .i64 c]) = .returned (.tuple #[.int .i64 d, .int .i64 e, .int .i64 f]) := by rw [h, k, l]
theorem mul_rise' (x y : Int) (h1 : -100000 ≤ x) (h2 : x ≤ 100000) (h3 : 0 ≤ y) (h4 : y ≤ 200000) : -20000000000 ≤ x * y ∧ x * y ≤ 20000000000 := by
  have a : x * y ≤ 100000 * y := Int.mul_le_mul_of_nonneg_right h2 h3
  have b : -100000 * y ≤ x * y := Int.mul_le_mul_of_nonneg_right h1 h3
  omega
theorem s_Floor' (a b : Int) (w : World) (h1 : -1000000000000 ≤ a) (h2 : a ≤ 1000000000000) (h3 : 1 ≤ b) (h4 : b ≤ 1000000000000) :
    Calls Try.prog 75 #[.int .i64 a, .int .i64 b] w fun e w' => e = .returned (.int .i64 (flo a b)) ∧ w' = w := (s_Floor a b w h1 h2 (by omega) h4 (by omega)).mono fun _ _ ⟨h, k⟩ => ⟨h, k.symm⟩
end Go.Proofs.Ytdhoiiejcmnmbaa
namespace Go.Proofs.Ytdhoiiejcmnmbaa
open Go.RowKit
set_option linter.unusedVariables false
set_option linter.unusedSimpArgs false
/-- what hands back the beginnings leaves: a list of its own, and a code -/
def Started (w : World) (L : List Sg) (e : Ending) (w' : World) : Prop :=
  ∃ v, e = .returned (.tuple #[v, .int .i64 (tlE L)]) ∧ Own w' w.heap.size v (strs L) ∧ Later w w'
theorem own_none (w : World) (base : Nat) : Own w base (.slice none 0 0) [] := ⟨⟨rfl, .inl ⟨rfl, rfl⟩⟩, fun x hx => by simp at hx⟩
theorem strs_in {L : List Sg} (hv : layB L = true) : ∀ x ∈ strs L, InR x := by
  intro x hx
  obtain ⟨_, h2, h3, _⟩ := (layB_iff L).1 hv
  unfold strs at hx
  rw [if_pos hv] at hx
  obtain ⟨j, hj, rfl⟩ := List.mem_map.1 hx
  rw [List.mem_range] at hj
  obtain ⟨_, _, b1, b2⟩ := up_bd L j (by omega) (okB_le L L.length j (by omega) h3)
  exact ⟨by omega, by omega⟩
theorem Own.mono {w : World} {base base' : Nat} {v : Value} {l : List Int} (h : Own w base v l) (hb : base' ≤ base) : Own w base' v l := by
  refine ⟨⟨h.1.1, ?_⟩, h.2⟩
  rcases h.1.2 with h0 | ⟨g, cap, cur, e, hg, r⟩
  · exact .inl h0
  · exact .inr ⟨g, cap, cur, e, by omega, r⟩
/-- behind an append to a list of the call's own, made in blocks above the first -/
theorem later_grown {w wr w5 : World} {v : Value} {l : List Int} (W : Later w wr) (O : Own wr (w.heap.size + 1) v l) (hg : wr.grownBy w5 v.ownBlock) :
    Hid (Later w w5) ∧ (∀ (o : Nat) (u : Value), wr.cell? ⟨w.heap.size, o, none⟩ = some u → w5.cell? ⟨w.heap.size, o, none⟩ = some u) ∧ wr.heap.size ≤ w5.heap.size := by
  refine ⟨Lib.hid (Below.grown W hg W.size (fun j hj => by have := (O.lt j hj).1; omega)), fun o u hc => hg.cell hc (fun e => by have := (O.lt _ e.symm).1; simp at this; omega), hg.size⟩
end Go.Proofs.Ytdhoiiejcmnmbaa
namespace Go.Proofs.Ytdhoiiejcmnmbaa
open Go.RowKit
set_option maxHeartbeats 2000000
set_option linter.unusedVariables false
set_option linter.unusedSimpArgs false
def ListIs (w : World) (l : List Int) (e : Ending) (w' : World) : Prop := ∃ v, e = .returned v ∧ Own w' w.heap.size v l ∧ Later w w'
end Go.Proofs.Ytdhoiiejcmnmbaa
namespace Go.Proofs.Ytdhoiiejcmnmbaa
open Go.RowKit
set_option maxHeartbeats 4000000
set_option linter.unusedVariables false
set_option linter.unusedSimpArgs false
/-- a segment of a valid layout holds by its kind -/
theorem hld_kind {L : List Sg} (hv : layB L = true) (q : Nat) (hq : q < L.length) : (decide ((sx L q).k = 1) || decide ((sx L q).k = 3) || decide ((sx L q).k = 4)) = hldB (sx L q) := by
  unfold hldB
  rw [okB_at L L.length q (Nat.le_refl _) hq ((layB_iff L).1 hv).2.2.1]
  simp
theorem s_holds_at {L : List Sg} (hv : layB L = true) (q : Nat) (hq : q < L.length) (w : World) : Calls Try.prog 134 #[.agg #[.int .i64 (sx L q).k, .int .i64 (sx L q).l, .int .i64 (sx L q).r, .int .i64 (sx L q).a, .int .i64 (sx L q).b, .int .i64 (sx L q).c, .int .i64 (sx L q).d]] w fun e w' => e = .returned (.bool (hldB (sx L q))) ∧ Later w w' := by
  have := s_l03Holds (sx L q) w
  rwa [hld_kind hv q hq] at this
theorem s_RisesL (a : Option Addr) (n cap : Nat) (l : List Int) (m : Int) (w : World) (hs : Sl w a n l) :
    Calls Try.prog 108 #[.slice a n cap, .int .i64 m] w fun e w' => e = .returned (.bool (risB l m)) ∧ Later w w' :=
  (s_Rises a n cap l m w hs).mono fun e w' ⟨he, q, hq⟩ => ⟨he, by rw [hq]; exact (Later.refl _).drewN q⟩
theorem SgAt.later0 {w w' : World} {b o : Nat} {x : Sg} (h : SgAt w b o x) (k : Later w w') : SgAt w' b o x := by
  obtain ⟨h0, h1, h2, h3, h4, h5, h6⟩ := h
  have hb := sg_cell_lt h0
  refine ⟨?_, ?_, ?_, ?_, ?_, ?_, ?_⟩
  · rw [k.cell (p := ⟨b, o, none⟩) hb]; exact h0
  · rw [k.cell (p := ⟨b, o + 1, none⟩) hb]; exact h1
  · rw [k.cell (p := ⟨b, o + 2, none⟩) hb]; exact h2
  · rw [k.cell (p := ⟨b, o + 3, none⟩) hb]; exact h3
  · rw [k.cell (p := ⟨b, o + 4, none⟩) hb]; exact h4
  · rw [k.cell (p := ⟨b, o + 5, none⟩) hb]; exact h5
  · rw [k.cell (p := ⟨b, o + 6, none⟩) hb]; exact h6
/-- a box, an element of a list, a segment: what one round reads -/
def Nine (w : World) (B : Nat) (a : Option Addr) (n cap : Nat) (bF oF : Nat) (v : Int) (b o : Nat) (x : Sg) : Prop :=
  w.cell? ⟨B, 0, none⟩ = some (.slice a n cap) ∧ w.cell? ⟨bF, oF, none⟩ = some (.int .i64 v) ∧ w.cell? ⟨b, o, none⟩ = some (.int .i64 x.k) ∧ w.cell? ⟨b, o + 1, none⟩ = some (.int .i64 x.l) ∧ w.cell? ⟨b, o + 2, none⟩ = some (.int .i64 x.r) ∧ w.cell? ⟨b, o + 3, none⟩ = some (.int .i64 x.a) ∧ w.cell? ⟨b, o + 4, none⟩ = some (.int .i64 x.b) ∧ w.cell? ⟨b, o + 5, none⟩ = some (.int .i64 x.c) ∧ w.cell? ⟨b, o + 6, none⟩ = some (.int .i64 x.d)
theorem Nine.later {w w' : World} {B : Nat} {a : Option Addr} {n cap : Nat} {bF oF : Nat} {v : Int} {b o : Nat} {x : Sg} (h : Nine w B a n cap bF oF v b o x) (k : Later w w') : Nine w' B a n cap bF oF v b o x := by
  obtain ⟨h0, h1, h2⟩ := h
  refine ⟨by rw [k.cell (p := ⟨B, 0, none⟩) (cell_lt h0)]; exact h0, by rw [k.cell (p := ⟨bF, oF, none⟩) (cell_lt h1)]; exact h1, ?_⟩
  exact SgAt.later0 h2 k
set_option maxRecDepth 100000 in
theorem s_l04Blocks (a : Option Addr) (n cap : Nat) (L : List Sg) (A : Option Addr) (m capF : Nat) (F : List Int) (w : World) (hs : Sgs w a n L) (hf : Sl w A m F) (hv : layB L = true) :
    Calls Try.prog 123 #[.agg #[.slice a n cap], .slice A m capF] w fun e w' => e = .returned (.bool (bkC L F)) ∧ Later w w' := by
  have HS := Lib.hid hs; have HL := Lib.hid hs.1
  have HF := Lib.hid hf; have HM := Lib.hid hf.1
  have hn := hs.2.1; have hm := hf.2.1
  have HV := Lib.hid hv
  have h24 := ((layB_iff L).1 hv).2.1
  rw [HL.out] at h24
  clear hs hf hv
  by_cases h28 : 2 ≤ m ∧ m ≤ 8
  · obtain ⟨h2, h8⟩ := h28
    obtain ⟨bF, oF, rfl, hc0⟩ := HF.out.at 0 (by omega)
    have hbF := cell_lt hc0
    rw [Nat.add_zero] at hc0
    cases hr : risB F (n : Int)
    · have HT : Hid (bkC L F = false) := Lib.hid (by rw [bkC_no]; rintro ⟨_, _, e, _⟩; rw [HL.out, hr] at e; cases e)
      go_enter Try.func123, Try.ntmps123
      go_wp2_with (first
        | (go_at_call 69; refine (s_In _ _ _ _).mono ?_; rintro e w' ⟨rfl, rfl⟩)
        | (go_at_call 108; refine (s_RisesL _ m capF F n _ (HF.out.later (by repeat (first | (with_reducible exact Later.refl _) | (with_reducible exact Hid.out (by assumption)) | (with_reducible refine Later.alloc ?_ _) | (with_reducible refine Later.setCell ?_ (by simp; omega) _) | (with_reducible refine Later.setCell ?_ (by simp) _) | (with_reducible refine Later.drewN ?_ _) | (with_reducible refine Later.drew ?_) | (with_reducible refine Later.trans ?_ (Hid.out (by assumption))))))).mono ?_; rw [hr]; rintro e w1 ⟨rfl, hb⟩; have H := Lib.hid hb; clear hb))
      go_ret
      exact ⟨ret_b (by rw [HT.out]), (by repeat (first | (with_reducible exact Later.refl _) | (with_reducible exact Hid.out (by assumption)) | (with_reducible refine Later.alloc ?_ _) | (with_reducible refine Later.setCell ?_ (by simp; omega) _) | (with_reducible refine Later.setCell ?_ (by simp) _) | (with_reducible refine Later.drewN ?_ _) | (with_reducible refine Later.drew ?_) | (with_reducible refine Later.trans ?_ (Hid.out (by assumption)))))⟩
    · have HR := Lib.hid hr
      by_cases h0 : gx F 0 = 0
      · have e0 : (gx F 0 != 0) = false := by simp [h0]
        have HG0 := Lib.hid h0
        clear h0
        go_enter Try.func123, Try.ntmps123
        go_wp2_with (first
          | (go_at_call 69; refine (s_In _ _ _ _).mono ?_; rintro e w' ⟨rfl, rfl⟩)
          | (go_at_call 108; refine (s_RisesL _ m capF F n _ (HF.out.later (by repeat (first | (with_reducible exact Later.refl _) | (with_reducible exact Hid.out (by assumption)) | (with_reducible refine Later.alloc ?_ _) | (with_reducible refine Later.setCell ?_ (by simp; omega) _) | (with_reducible refine Later.setCell ?_ (by simp) _) | (with_reducible refine Later.drewN ?_ _) | (with_reducible refine Later.drew ?_) | (with_reducible refine Later.trans ?_ (Hid.out (by assumption))))))).mono ?_; rintro e w1 ⟨rfl, hb⟩; obtain ⟨H, hcc, hff, hzz⟩ := later_facts hb; clear hb; (try simp at hzz); (try simp only [World.heap_drewN, World.cell?_drewN, World.frozen?_drewN] at hcc hff)))
        have HW1 : Hid (Later w w1) := Lib.hid (Later.trans (by repeat (first | (with_reducible exact Later.refl _) | (with_reducible exact Hid.out (by assumption)) | (with_reducible refine Later.alloc ?_ _) | (with_reducible refine Later.setCell ?_ (by simp; omega) _) | (with_reducible refine Later.setCell ?_ (by simp) _) | (with_reducible refine Later.drewN ?_ _) | (with_reducible refine Later.drew ?_) | (with_reducible refine Later.trans ?_ (Hid.out (by assumption))))) H.out)
        have cb1 : w1.cell? ⟨w.heap.size, 0, none⟩ = some (.slice a n cap) := by rw [hcc _ _ (by simp)]; simp
        have hz1 : w.heap.size < w1.heap.size := by omega
        clear hcc hff hr e0 hc0 H
        go_loopw [5] (fun i wr => ∃ k : Nat, 1 ≤ k ∧ k ≤ m ∧ i = .int .i64 k ∧ okH L F k = true ∧ Later w1 wr) (fun i _ => m - (intOf i).toNat)
        case atStart => exact ⟨1, by omega, by omega, rfl, okH_1 L F, Later.refl _⟩
        case round =>
          obtain ⟨k, hk1, hk, rfl, hok, hlw⟩ := hrel
          have HO := Lib.hid hok; have HLW := Lib.hid hlw
          have HW : Hid (Later w wr) := Lib.hid (HW1.out.trans hlw)
          have cb : wr.cell? ⟨w.heap.size, 0, none⟩ = some (.slice a n cap) := by rw [hlw.cell (p := ⟨w.heap.size, 0, none⟩) hz1]; exact cb1
          clear hok hlw
          by_cases hlt : k < m
          · obtain ⟨q, hq, hqn, hqf⟩ := fst_pred (L := L) HR.out (k := k - 1) (by rw [HM.out]; omega)
            rw [show k - 1 + 1 = k by omega] at hq hqf
            obtain ⟨b', o', hbb, hcF'⟩ := (HF.out.later HW.out).at k hlt
            simp only [Option.some.injEq, Addr.mk.injEq, and_true] at hbb
            obtain ⟨rfl, rfl⟩ := hbb
            rw [hq] at hcF'
            obtain ⟨v, hvq⟩ : ∃ v, v = ((q + 1 : Nat) : Int) := ⟨_, rfl⟩
            rw [← hvq] at hcF'
            obtain ⟨b2, o2, rfl, hb2, hc⟩ := (HS.out.later HW.out).at q (by omega)
            have N9 : Hid (Nine wr w.heap.size (some ⟨b2, o2, none⟩) n cap bF (oF + k) v b2 (o2 + q * 7) (sx L q)) := Lib.hid ⟨cb, hcF', hc⟩
            obtain ⟨c0, c1, c2, c3, c4, c5, c6⟩ := hc
            have HOK : Hid (okH L F (k + 1) = hldB (sx L q)) := Lib.hid (by rw [okH_succ, HO.out, hqf]; simp; intro h; omega)
            have hq1 : IntKind.i64.wrap (v - 1) = (q : Int) := (IntWalk.i64_in _ (by omega)).trans (by omega)
            have hq2 : wrap64 (v - 1) = (q : Int) := (IntWalk.wrap64_in _ (by omega)).trans (by omega)
            have hq3 : (0 : Int) ≤ (q : Int) := by omega
            have hq4 : (q : Int) < (n : Int) := by omega
            have hk3 : (0 : Int) ≤ (k : Int) := by omega
            have hk4 : (k : Int) < (m : Int) := by omega
            have hq5 : q < n := by omega
            clear hq hqf hvq
            cases hh : hldB (sx L q)
            · have HN : Hid (bkC L F = false) := Lib.hid (by
                rw [bkC_no]; rintro ⟨_, _, _, _, e⟩
                have := okH_at L F F.length k e (by rw [HM.out]; omega) (by omega)
                have h2 := HOK.out
                rw [okH_succ, HO.out, this] at h2
                rw [hh] at h2; simp at h2)
              go_wp2_with fail
              go_region_held3 (fun w' => w'.cell? ⟨w.heap.size, 0, none⟩ = some (.slice (some ⟨b2, o2, none⟩) n cap) ∧ w'.cell? ⟨bF, oF + k, none⟩ = some (.int .i64 v) ∧ w'.cell? ⟨b2, o2 + q * 7, none⟩ = some (.int .i64 (sx L q).k) ∧ w'.cell? ⟨b2, o2 + q * 7 + 1, none⟩ = some (.int .i64 (sx L q).l) ∧ w'.cell? ⟨b2, o2 + q * 7 + 2, none⟩ = some (.int .i64 (sx L q).r) ∧ w'.cell? ⟨b2, o2 + q * 7 + 3, none⟩ = some (.int .i64 (sx L q).a) ∧ w'.cell? ⟨b2, o2 + q * 7 + 4, none⟩ = some (.int .i64 (sx L q).b) ∧ w'.cell? ⟨b2, o2 + q * 7 + 5, none⟩ = some (.int .i64 (sx L q).c) ∧ w'.cell? ⟨b2, o2 + q * 7 + 6, none⟩ = some (.int .i64 (sx L q).d)) (exact N9.out.later (by repeat (first | (with_reducible exact Later.refl _) | (with_reducible exact Hid.out (by assumption)) | (with_reducible refine Later.alloc ?_ _) | (with_reducible refine Later.setCell ?_ (by simp; omega) _) | (with_reducible refine Later.setCell ?_ (by simp) _) | (with_reducible refine Later.drewN ?_ _) | (with_reducible refine Later.drew ?_) | (with_reducible refine Later.trans ?_ (Hid.out (by assumption))))))
                (first | (go_at_call 134; refine (s_holds_at HV.out q (by rw [HL.out]; omega) _).mono ?_; rw [hh]; rintro e w1 ⟨rfl, hb1⟩; have H1 := Lib.hid hb1; clear hb1))
              all_goals
                go_wp2
                go_ret
                exact ⟨ret_b (by rw [HN.out]), (by repeat (first | (with_reducible exact Later.refl _) | (with_reducible exact Hid.out (by assumption)) | (with_reducible refine Later.alloc ?_ _) | (with_reducible refine Later.setCell ?_ (by simp; omega) _) | (with_reducible refine Later.setCell ?_ (by simp) _) | (with_reducible refine Later.drewN ?_ _) | (with_reducible refine Later.drew ?_) | (with_reducible refine Later.trans ?_ (Hid.out (by assumption)))))⟩
            · have HN : Hid (okH L F (k + 1) = true) := Lib.hid (by rw [HOK.out, hh])
              go_wp2_with fail
              go_region_held3 (fun w' => w'.cell? ⟨w.heap.size, 0, none⟩ = some (.slice (some ⟨b2, o2, none⟩) n cap) ∧ w'.cell? ⟨bF, oF + k, none⟩ = some (.int .i64 v) ∧ w'.cell? ⟨b2, o2 + q * 7, none⟩ = some (.int .i64 (sx L q).k) ∧ w'.cell? ⟨b2, o2 + q * 7 + 1, none⟩ = some (.int .i64 (sx L q).l) ∧ w'.cell? ⟨b2, o2 + q * 7 + 2, none⟩ = some (.int .i64 (sx L q).r) ∧ w'.cell? ⟨b2, o2 + q * 7 + 3, none⟩ = some (.int .i64 (sx L q).a) ∧ w'.cell? ⟨b2, o2 + q * 7 + 4, none⟩ = some (.int .i64 (sx L q).b) ∧ w'.cell? ⟨b2, o2 + q * 7 + 5, none⟩ = some (.int .i64 (sx L q).c) ∧ w'.cell? ⟨b2, o2 + q * 7 + 6, none⟩ = some (.int .i64 (sx L q).d)) (exact N9.out.later (by repeat (first | (with_reducible exact Later.refl _) | (with_reducible exact Hid.out (by assumption)) | (with_reducible refine Later.alloc ?_ _) | (with_reducible refine Later.setCell ?_ (by simp; omega) _) | (with_reducible refine Later.setCell ?_ (by simp) _) | (with_reducible refine Later.drewN ?_ _) | (with_reducible refine Later.drew ?_) | (with_reducible refine Later.trans ?_ (Hid.out (by assumption))))))
                (first | (go_at_call 134; refine (s_holds_at HV.out q (by rw [HL.out]; omega) _).mono ?_; rw [hh]; rintro e w1 ⟨rfl, hb1⟩; have H1 := Lib.hid hb1; clear hb1))
              all_goals
                go_wp2
                go_roundw
                case rel => exact ⟨k + 1, by omega, by omega, by go_num, HN.out, (by repeat (first | (with_reducible exact Later.refl _) | (with_reducible exact Hid.out (by assumption)) | (with_reducible refine Later.alloc ?_ _) | (with_reducible refine Later.setCell ?_ (by simp; omega) _) | (with_reducible refine Later.setCell ?_ (by simp) _) | (with_reducible refine Later.drewN ?_ _) | (with_reducible refine Later.drew ?_) | (with_reducible refine Later.trans ?_ (Hid.out (by assumption)))))⟩
                case measure => simp [intOf]; omega
          · obtain rfl : k = m := by omega
            have HN : Hid (bkC L F = true) := Lib.hid (by
              rw [bkC_iff, HM.out, HL.out]
              exact ⟨h2, h8, HR.out, HG0.out, HO.out⟩)
            go_wp2
            go_ret
            exact ⟨ret_b (by rw [HN.out]), (by repeat (first | (with_reducible exact Later.refl _) | (with_reducible exact Hid.out (by assumption)) | (with_reducible refine Later.alloc ?_ _) | (with_reducible refine Later.setCell ?_ (by simp; omega) _) | (with_reducible refine Later.setCell ?_ (by simp) _) | (with_reducible refine Later.drewN ?_ _) | (with_reducible refine Later.drew ?_) | (with_reducible refine Later.trans ?_ (Hid.out (by assumption)))))⟩
      · have e0 : (gx F 0 != 0) = true := by simpa using h0
        have HT : Hid (bkC L F = false) := Lib.hid (by rw [bkC_no]; rintro ⟨_, _, _, e, _⟩; exact h0 e)
        clear h0
        go_enter Try.func123, Try.ntmps123
        go_wp2_with (first
          | (go_at_call 69; refine (s_In _ _ _ _).mono ?_; rintro e w' ⟨rfl, rfl⟩)
          | (go_at_call 108; refine (s_RisesL _ m capF F n _ (HF.out.later (by repeat (first | (with_reducible exact Later.refl _) | (with_reducible exact Hid.out (by assumption)) | (with_reducible refine Later.alloc ?_ _) | (with_reducible refine Later.setCell ?_ (by simp; omega) _) | (with_reducible refine Later.setCell ?_ (by simp) _) | (with_reducible refine Later.drewN ?_ _) | (with_reducible refine Later.drew ?_) | (with_reducible refine Later.trans ?_ (Hid.out (by assumption))))))).mono ?_; rintro e w1 ⟨rfl, hb⟩; obtain ⟨H, hcc, hff, hzz⟩ := later_facts hb; clear hb; (try simp at hzz); (try simp only [World.heap_drewN, World.cell?_drewN, World.frozen?_drewN] at hcc hff)))
        go_ret
        exact ⟨ret_b (by rw [HT.out]), (by repeat (first | (with_reducible exact Later.refl _) | (with_reducible exact Hid.out (by assumption)) | (with_reducible refine Later.alloc ?_ _) | (with_reducible refine Later.setCell ?_ (by simp; omega) _) | (with_reducible refine Later.setCell ?_ (by simp) _) | (with_reducible refine Later.drewN ?_ _) | (with_reducible refine Later.drew ?_) | (with_reducible refine Later.trans ?_ (Hid.out (by assumption)))))⟩
  · have HT : Hid (bkC L F = false) := Lib.hid (by rw [bkC_no]; rintro ⟨e1, e2, _⟩; rw [HM.out] at e1 e2; exact h28 ⟨e1, e2⟩)
    have d : (decide (2 ≤ (m : Int)) && decide ((m : Int) ≤ 8)) = false := by
      rw [Bool.and_eq_false_iff]; simp; omega
    clear h28
    go_enter Try.func123, Try.ntmps123
    go_wp2_with (first
      | (go_at_call 69; refine (s_In _ _ _ _).mono ?_; rintro e w' ⟨rfl, rfl⟩))
    go_ret
    exact ⟨ret_b (by rw [HT.out]), (by repeat (first | (with_reducible exact Later.refl _) | (with_reducible exact Hid.out (by assumption)) | (with_reducible refine Later.alloc ?_ _) | (with_reducible refine Later.setCell ?_ (by simp; omega) _) | (with_reducible refine Later.setCell ?_ (by simp) _) | (with_reducible refine Later.drewN ?_ _) | (with_reducible refine Later.drew ?_) | (with_reducible refine Later.trans ?_ (Hid.out (by assumption)))))⟩
end Go.Proofs.Ytdhoiiejcmnmbaa
namespace Go.Proofs.Ytdhoiiejcmnmbaa
open Go.RowKit
set_option maxHeartbeats 4000000
set_option linter.unusedVariables false
set_option linter.unusedSimpArgs false
theorem s_AreBlocks (a : Option Addr) (n cap : Nat) (L : List Sg) (A : Option Addr) (m capF : Nat) (F : List Int) (w : World) (hs : Sgs w a n L) (hf : Sl w A m F) :
    Calls Try.prog 98 #[.agg #[.slice a n cap], .slice A m capF] w fun e w' => e = .returned (.bool (bkB L F)) ∧ Later w w' := by
  have HS := Lib.hid hs; have HF := Lib.hid hf
  clear hs hf
  cases hv : layB L
  · have HT := Lib.hid (bkB_nl (F := F) hv)
    go_enter Try.func98, Try.ntmps98
    go_wp2_with (first
      | (go_at_call 78; refine (s_IsLayout a n cap L _ (HS.out.later (by repeat (first | (with_reducible exact Later.refl _) | (with_reducible exact Hid.out (by assumption)) | (with_reducible refine Later.alloc ?_ _) | (with_reducible refine Later.setCell ?_ (by simp; omega) _) | (with_reducible refine Later.setCell ?_ (by simp) _) | (with_reducible refine Later.drewN ?_ _) | (with_reducible refine Later.drew ?_) | (with_reducible refine Later.trans ?_ (Hid.out (by assumption))))))).mono ?_; rw [hv]; rintro e w1 ⟨rfl, hb⟩; obtain ⟨H, hcc, hff, hzz⟩ := later_facts hb; clear hb; (try simp at hzz)))
    go_ret
    exact ⟨ret_b (by rw [HT.out]), (by repeat (first | (with_reducible exact Later.refl _) | (with_reducible exact Hid.out (by assumption)) | (with_reducible refine Later.alloc ?_ _) | (with_reducible refine Later.setCell ?_ (by simp; omega) _) | (with_reducible refine Later.setCell ?_ (by simp) _) | (with_reducible refine Later.drewN ?_ _) | (with_reducible refine Later.drew ?_) | (with_reducible refine Later.trans ?_ (Hid.out (by assumption)))))⟩
  · have HV := Lib.hid hv
    have HB : Hid (bkB L F = bkC L F) := Lib.hid (bkB_l hv)
    cases hk : bkC L F
    all_goals
      go_enter Try.func98, Try.ntmps98
      go_wp2_with (first
        | (go_at_call 78; refine (s_IsLayout a n cap L _ (HS.out.later (by repeat (first | (with_reducible exact Later.refl _) | (with_reducible exact Hid.out (by assumption)) | (with_reducible refine Later.alloc ?_ _) | (with_reducible refine Later.setCell ?_ (by simp; omega) _) | (with_reducible refine Later.setCell ?_ (by simp) _) | (with_reducible refine Later.drewN ?_ _) | (with_reducible refine Later.drew ?_) | (with_reducible refine Later.trans ?_ (Hid.out (by assumption))))))).mono ?_; rw [hv]; rintro e w1 ⟨rfl, hb⟩; obtain ⟨H, hcc, hff, hzz⟩ := later_facts hb; clear hb; (try simp at hzz))
        | (go_at_call 123; refine (s_l04Blocks a n cap L A m capF F _ (HS.out.later (by repeat (first | (with_reducible exact Later.refl _) | (with_reducible exact Hid.out (by assumption)) | (with_reducible refine Later.alloc ?_ _) | (with_reducible refine Later.setCell ?_ (by simp; omega) _) | (with_reducible refine Later.setCell ?_ (by simp) _) | (with_reducible refine Later.drewN ?_ _) | (with_reducible refine Later.drew ?_) | (with_reducible refine Later.trans ?_ (Hid.out (by assumption)))))) (HF.out.later (by repeat (first | (with_reducible exact Later.refl _) | (with_reducible exact Hid.out (by assumption)) | (with_reducible refine Later.alloc ?_ _) | (with_reducible refine Later.setCell ?_ (by simp; omega) _) | (with_reducible refine Later.setCell ?_ (by simp) _) | (with_reducible refine Later.drewN ?_ _) | (with_reducible refine Later.drew ?_) | (with_reducible refine Later.trans ?_ (Hid.out (by assumption)))))) HV.out).mono ?_; rw [hk]; rintro e w2 ⟨rfl, hb⟩; have H2 := Lib.hid hb; clear hb))
      go_ret
      exact ⟨ret_b (by rw [HB.out, hk]), (by repeat (first | (with_reducible exact Later.refl _) | (with_reducible exact Hid.out (by assumption)) | (with_reducible refine Later.alloc ?_ _) | (with_reducible refine Later.setCell ?_ (by simp; omega) _) | (with_reducible refine Later.setCell ?_ (by simp) _) | (with_reducible refine Later.drewN ?_ _) | (with_reducible refine Later.drew ?_) | (with_reducible refine Later.trans ?_ (Hid.out (by assumption)))))⟩
/-- the code of a block -/
theorem s_l04Block (a : Option Addr) (n cap : Nat) (L : List Sg) (A : Option Addr) (m capF : Nat) (F : List Int) (p : Int) (w : World) (hs : Sgs w a n L) (hf : Sl w A m F) (hp : -9223372036854775808 ≤ p) (hp2 : p ≤ 9223372036854775807) :
    Calls Try.prog 95 #[.agg #[.slice a n cap], .slice A m capF, .int .i64 p] w fun e w' => e = .returned (.int .i64 (fndE L F (isNo p))) ∧ Later w w' := by
  have HS := Lib.hid hs; have HF := Lib.hid hf; have HL := Lib.hid hs.1; have HM := Lib.hid hf.1
  have hn := hs.2.1; have hm := hf.2.1
  clear hs hf
  cases hb : bkB L F
  · have HB := Lib.hid hb
    have HT := Lib.hid (fndC_bad (p := isNo p) hb)
    clear hb
    go_enter Try.func95, Try.ntmps95
    go_wp2_with (first
      | (go_at_call 98; refine (s_AreBlocks a n cap L A m capF F _ (HS.out.later (by repeat (first | (with_reducible exact Later.refl _) | (with_reducible exact Hid.out (by assumption)) | (with_reducible refine Later.alloc ?_ _) | (with_reducible refine Later.setCell ?_ (by simp; omega) _) | (with_reducible refine Later.setCell ?_ (by simp) _) | (with_reducible refine Later.drewN ?_ _) | (with_reducible refine Later.drew ?_) | (with_reducible refine Later.trans ?_ (Hid.out (by assumption)))))) (HF.out.later (by repeat (first | (with_reducible exact Later.refl _) | (with_reducible exact Hid.out (by assumption)) | (with_reducible refine Later.alloc ?_ _) | (with_reducible refine Later.setCell ?_ (by simp; omega) _) | (with_reducible refine Later.setCell ?_ (by simp) _) | (with_reducible refine Later.drewN ?_ _) | (with_reducible refine Later.drew ?_) | (with_reducible refine Later.trans ?_ (Hid.out (by assumption))))))).mono ?_; rw [HB.out]; rintro e w1 ⟨rfl, hb⟩; obtain ⟨H, hcc, hff, hzz⟩ := later_facts hb; clear hb; (try simp at hzz)))
    go_ret
    exact ⟨ret_i64 (by rw [HT.out.2]), (by repeat (first | (with_reducible exact Later.refl _) | (with_reducible exact Hid.out (by assumption)) | (with_reducible refine Later.alloc ?_ _) | (with_reducible refine Later.setCell ?_ (by simp; omega) _) | (with_reducible refine Later.setCell ?_ (by simp) _) | (with_reducible refine Later.drewN ?_ _) | (with_reducible refine Later.drew ?_) | (with_reducible refine Later.trans ?_ (Hid.out (by assumption)))))⟩
  · have HB := Lib.hid hb
    obtain ⟨hv, hk⟩ := bkB_lay hb
    have h28 : 2 ≤ m ∧ m ≤ 8 := by have := (bkC_iff L F).1 hk; rw [HM.out] at this; omega
    obtain ⟨h2, h8⟩ := h28
    clear hv hk
    by_cases hin : 0 ≤ p ∧ p ≤ (m : Int) - 1
    · have HT : Hid (fndE L F (isNo p) = 0) := Lib.hid (by
        obtain ⟨b, rfl⟩ : ∃ b : Nat, p = (b : Int) := ⟨p.toNat, by omega⟩
        exact (fndC_some hb (fnd_isNo b (by rw [HM.out]; omega))).2)
      obtain ⟨q1, q2⟩ := hin
      clear hb
      go_enter Try.func95, Try.ntmps95
      go_wp2_with (first
        | (go_at_call 98; refine (s_AreBlocks a n cap L A m capF F _ (HS.out.later (by repeat (first | (with_reducible exact Later.refl _) | (with_reducible exact Hid.out (by assumption)) | (with_reducible refine Later.alloc ?_ _) | (with_reducible refine Later.setCell ?_ (by simp; omega) _) | (with_reducible refine Later.setCell ?_ (by simp) _) | (with_reducible refine Later.drewN ?_ _) | (with_reducible refine Later.drew ?_) | (with_reducible refine Later.trans ?_ (Hid.out (by assumption)))))) (HF.out.later (by repeat (first | (with_reducible exact Later.refl _) | (with_reducible exact Hid.out (by assumption)) | (with_reducible refine Later.alloc ?_ _) | (with_reducible refine Later.setCell ?_ (by simp; omega) _) | (with_reducible refine Later.setCell ?_ (by simp) _) | (with_reducible refine Later.drewN ?_ _) | (with_reducible refine Later.drew ?_) | (with_reducible refine Later.trans ?_ (Hid.out (by assumption))))))).mono ?_; rw [HB.out]; rintro e w1 ⟨rfl, hb⟩; obtain ⟨H, hcc, hff, hzz⟩ := later_facts hb; clear hb; (try simp at hzz))
        | (go_at_call 69; refine (s_In _ _ _ _).mono ?_; rintro e w' ⟨rfl, rfl⟩))
      go_ret
      exact ⟨ret_i64 (by rw [HT.out]), (by repeat (first | (with_reducible exact Later.refl _) | (with_reducible exact Hid.out (by assumption)) | (with_reducible refine Later.alloc ?_ _) | (with_reducible refine Later.setCell ?_ (by simp; omega) _) | (with_reducible refine Later.setCell ?_ (by simp) _) | (with_reducible refine Later.drewN ?_ _) | (with_reducible refine Later.drew ?_) | (with_reducible refine Later.trans ?_ (Hid.out (by assumption)))))⟩
    · have HT : Hid (fndE L F (isNo p) = 2) := Lib.hid (fndC_none hb (fnd_isNo_no p (by rw [HM.out]; omega))).2
      have d : (decide (0 ≤ p) && decide (p ≤ (m : Int) - 1)) = false := by simpa using hin
      clear hin hb
      go_enter Try.func95, Try.ntmps95
      go_wp2_with (first
        | (go_at_call 98; refine (s_AreBlocks a n cap L A m capF F _ (HS.out.later (by repeat (first | (with_reducible exact Later.refl _) | (with_reducible exact Hid.out (by assumption)) | (with_reducible refine Later.alloc ?_ _) | (with_reducible refine Later.setCell ?_ (by simp; omega) _) | (with_reducible refine Later.setCell ?_ (by simp) _) | (with_reducible refine Later.drewN ?_ _) | (with_reducible refine Later.drew ?_) | (with_reducible refine Later.trans ?_ (Hid.out (by assumption)))))) (HF.out.later (by repeat (first | (with_reducible exact Later.refl _) | (with_reducible exact Hid.out (by assumption)) | (with_reducible refine Later.alloc ?_ _) | (with_reducible refine Later.setCell ?_ (by simp; omega) _) | (with_reducible refine Later.setCell ?_ (by simp) _) | (with_reducible refine Later.drewN ?_ _) | (with_reducible refine Later.drew ?_) | (with_reducible refine Later.trans ?_ (Hid.out (by assumption))))))).mono ?_; rw [HB.out]; rintro e w1 ⟨rfl, hb⟩; obtain ⟨H, hcc, hff, hzz⟩ := later_facts hb; clear hb; (try simp at hzz))
        | (go_at_call 69; refine (s_In _ _ _ _).mono ?_; rintro e w' ⟨rfl, rfl⟩))
      go_ret
      exact ⟨ret_i64 (by rw [HT.out]), (by repeat (first | (with_reducible exact Later.refl _) | (with_reducible exact Hid.out (by assumption)) | (with_reducible refine Later.alloc ?_ _) | (with_reducible refine Later.setCell ?_ (by simp; omega) _) | (with_reducible refine Later.setCell ?_ (by simp) _) | (with_reducible refine Later.drewN ?_ _) | (with_reducible refine Later.drew ?_) | (with_reducible refine Later.trans ?_ (Hid.out (by assumption)))))⟩
/-- the index behind a block's last segment -/
theorem s_l04End (a : Option Addr) (n cap : Nat) (L : List Sg) (A : Option Addr) (m capF : Nat) (F : List Int) (b : Nat) (w : World) (hs : Sgs w a n L) (hf : Sl w A m F) (hk : bkC L F = true) (hb : b < m) :
    Calls Try.prog 99 #[.agg #[.slice a n cap], .slice A m capF, .int .i64 b] w fun e w' => e = .returned (.int .i64 (endK L F b)) ∧ Later w w' := by
  have HS := Lib.hid hs; have HF := Lib.hid hf; have HL := Lib.hid hs.1; have HM := Lib.hid hf.1
  have hn := hs.2.1
  obtain ⟨h2, h8, hr, _, _⟩ := (bkC_iff L F).1 hk
  rw [HM.out] at h2 h8
  by_cases hlt : b + 1 < m
  · obtain ⟨bF, oF, rfl, hc⟩ := hf.at (b + 1) hlt
    rw [(ris_nat hr (b + 1) (by rw [HM.out]; exact hlt)).1] at hc
    have HE : Hid (endK L F b = fstK F (b + 1)) := Lib.hid (endK_next b (by rw [HM.out]; exact hlt))
    have hbF := cell_lt hc
    have hkm : ((b : Int) + 1 < m) := by omega
    clear hs hf hk hr
    go_enter Try.func99, Try.ntmps99
    go_wp2_with fail
    go_ret
    exact ⟨ret_i64 (by rw [HE.out]), (by repeat (first | (with_reducible exact Later.refl _) | (with_reducible exact Hid.out (by assumption)) | (with_reducible refine Later.alloc ?_ _) | (with_reducible refine Later.setCell ?_ (by simp; omega) _) | (with_reducible refine Later.setCell ?_ (by simp) _) | (with_reducible refine Later.drewN ?_ _) | (with_reducible refine Later.drew ?_) | (with_reducible refine Later.trans ?_ (Hid.out (by assumption)))))⟩
  · have HE : Hid (endK L F b = n) := Lib.hid (by rw [endK_last b (by rw [HM.out]; omega)]; exact HL.out)
    have hkm : ¬ ((b : Int) + 1 < m) := by omega
    clear hs hf hk hr
    go_enter Try.func99, Try.ntmps99
    go_wp2_with fail
    go_ret
    exact ⟨ret_i64 (by rw [HE.out]), (by repeat (first | (with_reducible exact Later.refl _) | (with_reducible exact Hid.out (by assumption)) | (with_reducible refine Later.alloc ?_ _) | (with_reducible refine Later.setCell ?_ (by simp; omega) _) | (with_reducible refine Later.setCell ?_ (by simp) _) | (with_reducible refine Later.drewN ?_ _) | (with_reducible refine Later.drew ?_) | (with_reducible refine Later.trans ?_ (Hid.out (by assumption)))))⟩
/-- a block that is asked for by its number -/
theorem isNo_cases {L : List Sg} {F : List Int} {p : Int} (h : fndE L F (isNo p) = 0) : ∃ b : Nat, p = (b : Int) ∧ b < F.length ∧ layB L = true ∧ bkC L F = true ∧ fndC L F (isNo p) = sec L F b := by
  cases hb : bkB L F
  · rw [(fndC_bad hb).2] at h; cases h
  · obtain ⟨hv, hk⟩ := bkB_lay hb
    by_cases hin : 0 ≤ p ∧ p < F.length
    · obtain ⟨b, rfl⟩ : ∃ b : Nat, p = (b : Int) := ⟨p.toNat, by omega⟩
      exact ⟨b, rfl, by omega, hv, hk, (fndC_some hb (fnd_isNo b (by omega))).1⟩
    · rw [(fndC_none hb (fnd_isNo_no p (by omega))).2] at h; cases h
theorem two_cells' {w w' : World} {B b o : Nat} {u v : Value} (h : w.cell? ⟨B, 0, none⟩ = some u) (k : w.cell? ⟨b, o, none⟩ = some v) (hb : Later w w') : w'.cell? ⟨B, 0, none⟩ = some u ∧ w'.cell? ⟨b, o, none⟩ = some v :=
  ⟨by rw [hb.cell (p := ⟨B, 0, none⟩) (cell_lt h)]; exact h, by rw [hb.cell (p := ⟨b, o, none⟩) (cell_lt k)]; exact k⟩
end Go.Proofs.Ytdhoiiejcmnmbaa
namespace Go.Proofs.Ytdhoiiejcmnmbaa
open Go.RowKit
set_option maxHeartbeats 4000000
set_option linter.unusedVariables false
set_option linter.unusedSimpArgs false
theorem ebE_ok {L : List Sg} {F : List Int} {b : Nat} (h : fndE L F (isNo b) = 0) : ebE L F b = kE L F b := by
  unfold ebE kE; rw [if_pos h]; rfl
set_option maxRecDepth 100000 in
theorem i_EntryBounds (a : Option Addr) (n cap : Nat) (L : List Sg) (A : Option Addr) (m capF : Nat) (F : List Int) (p : Int) (w : World) (hs : Sgs w a n L) (hf : Sl w A m F) (hcn : n ≤ cap) (hcF : m ≤ capF) :
    Calls Try.prog 49 #[.agg #[.slice a n cap], .slice A m capF, .int .i64 p] w fun e w' => e = .returned (.tuple #[.agg #[.int .i64 (ebL L F p), .int .i64 (ebH L F p)], .int .i64 (ebE L F p)]) ∧ Later w w' := by
  have HC := fun w => i_sectionNumbered a n cap L A m capF F p w
  have HS := Lib.hid hs; have HF := Lib.hid hf
  by_cases h0 : fndE L F (isNo p) = 0
  · obtain ⟨b, rfl, hb, hv, hk, hsec⟩ := isNo_cases h0
    have HE := fun w (h : Sgs w a n L) => i_entryBounds a n cap L F b w h hcn hv hk hb
    rw [h0, hsec] at HC
    unfold scV at HC HE
    have e1 : ebE L F b = kE L F b := ebE_ok h0
    have e2 : ebL L F b = okV (kE L F b) (loK L F b) := by unfold ebL; rw [e1]; rfl
    have e3 : ebH L F b = okV (kE L F b) (hiK L F b) := by unfold ebH; rw [e1]; rfl
    rw [e1, e2, e3]
    generalize kE L F b = ke at *
    generalize okV ke (loK L F b) = lo at *
    generalize okV ke (hiK L F b) = hi at *
    generalize sec L F b = x at *
    obtain ⟨x0, x1, x2, x3, x4⟩ := x
    clear hs hf h0 hsec e1 e2 e3 hv hk hb
    dsimp only at HC HE
    go_enter Try.func49, Try.ntmps49
    go_wp2_with (first
          | (go_at_call 93; refine (HC _ (HS.out.later (by repeat (first | (with_reducible exact Later.refl _) | (with_reducible exact Hid.out (by assumption)) | (with_reducible refine Later.alloc ?_ _) | (with_reducible refine Later.setCell ?_ (by simp; omega) _) | (with_reducible refine Later.setCell ?_ (by simp) _) | (with_reducible refine Later.drewN ?_ _) | (with_reducible refine Later.drew ?_) | (with_reducible refine Later.trans ?_ (Hid.out (by assumption)))))) (HF.out.later (by repeat (first | (with_reducible exact Later.refl _) | (with_reducible exact Hid.out (by assumption)) | (with_reducible refine Later.alloc ?_ _) | (with_reducible refine Later.setCell ?_ (by simp; omega) _) | (with_reducible refine Later.setCell ?_ (by simp) _) | (with_reducible refine Later.drewN ?_ _) | (with_reducible refine Later.drew ?_) | (with_reducible refine Later.trans ?_ (Hid.out (by assumption)))))) hcn hcF).mono ?_; rintro e w1 ⟨rfl, hb⟩; obtain ⟨H, hcc, hff, hzz⟩ := later_facts hb; clear hb; (try simp at hzz); have hz0 : w.heap.size < w1.heap.size := (by omega); have hz1 : w.heap.size + 1 < w1.heap.size := (by omega))
          | (go_at_call 94; refine (HE _ (HS.out.later (by repeat (first | (with_reducible exact Later.refl _) | (with_reducible exact Hid.out (by assumption)) | (with_reducible refine Later.alloc ?_ _) | (with_reducible refine Later.setCell ?_ (by simp; omega) _) | (with_reducible refine Later.setCell ?_ (by simp) _) | (with_reducible refine Later.drewN ?_ _) | (with_reducible refine Later.drew ?_) | (with_reducible refine Later.trans ?_ (Hid.out (by assumption))))))).mono ?_; rintro e w2 ⟨rfl, hb⟩; obtain ⟨H, hcc, hff, hzz⟩ := later_facts hb; clear hb; (try simp at hzz); have hz0 : w.heap.size < w2.heap.size := (by omega); have hz1 : w.heap.size + 1 < w2.heap.size := (by omega)))
    refine bodyPost_ret (v := .tuple #[.agg #[.int .i64 lo, .int .i64 hi], .int .i64 ke]) (by simp [results, Try.results49, go_sem, *]) rfl ⟨rfl, (by repeat (first | (with_reducible exact Later.refl _) | (with_reducible exact Hid.out (by assumption)) | (with_reducible refine Later.alloc ?_ _) | (with_reducible refine Later.setCell ?_ (by simp; omega) _) | (with_reducible refine Later.setCell ?_ (by simp) _) | (with_reducible refine Later.drewN ?_ _) | (with_reducible refine Later.drew ?_) | (with_reducible refine Later.trans ?_ (Hid.out (by assumption)))))⟩
  · have e1 : ebE L F p = fndE L F (isNo p) := by unfold ebE; rw [if_neg h0]
    have e2 : ebL L F p = 0 := by unfold ebL okV; rw [e1, if_neg h0]
    have e3 : ebH L F p = 0 := by unfold ebH okV; rw [e1, if_neg h0]
    rw [e1, e2, e3]
    unfold scV at HC
    generalize fndE L F (isNo p) = ce at *
    generalize fndC L F (isNo p) = x at *
    obtain ⟨x0, x1, x2, x3, x4⟩ := x
    dsimp only at HC
    have hne : (ce != 0) = true := by simpa using h0
    clear hs hf h0 e1 e2 e3
    go_enter Try.func49, Try.ntmps49
    go_wp2_with (first
          | (go_at_call 93; refine (HC _ (HS.out.later (by repeat (first | (with_reducible exact Later.refl _) | (with_reducible exact Hid.out (by assumption)) | (with_reducible refine Later.alloc ?_ _) | (with_reducible refine Later.setCell ?_ (by simp; omega) _) | (with_reducible refine Later.setCell ?_ (by simp) _) | (with_reducible refine Later.drewN ?_ _) | (with_reducible refine Later.drew ?_) | (with_reducible refine Later.trans ?_ (Hid.out (by assumption)))))) (HF.out.later (by repeat (first | (with_reducible exact Later.refl _) | (with_reducible exact Hid.out (by assumption)) | (with_reducible refine Later.alloc ?_ _) | (with_reducible refine Later.setCell ?_ (by simp; omega) _) | (with_reducible refine Later.setCell ?_ (by simp) _) | (with_reducible refine Later.drewN ?_ _) | (with_reducible refine Later.drew ?_) | (with_reducible refine Later.trans ?_ (Hid.out (by assumption)))))) hcn hcF).mono ?_; rintro e w1 ⟨rfl, hb⟩; obtain ⟨H, hcc, hff, hzz⟩ := later_facts hb; clear hb; (try simp at hzz); have hz0 : w.heap.size < w1.heap.size := (by omega); have hz1 : w.heap.size + 1 < w1.heap.size := (by omega)))
    refine bodyPost_ret (v := .tuple #[.agg #[.int .i64 0, .int .i64 0], .int .i64 ce]) (by simp [results, Try.results49, go_sem, *]) rfl ⟨rfl, (by repeat (first | (with_reducible exact Later.refl _) | (with_reducible exact Hid.out (by assumption)) | (with_reducible refine Later.alloc ?_ _) | (with_reducible refine Later.setCell ?_ (by simp; omega) _) | (with_reducible refine Later.setCell ?_ (by simp) _) | (with_reducible refine Later.drewN ?_ _) | (with_reducible refine Later.drew ?_) | (with_reducible refine Later.trans ?_ (Hid.out (by assumption)))))⟩
theorem ret_bi {p q : Bool} {x y : Int} (h : p = q) (k : x = y) : Ending.returned (.tuple #[.bool p, .int .i64 x]) = .returned (.tuple #[.bool q, .int .i64 y]) := by rw [h, k]
/-- may a train enter, said by the bounds -/
theorem meB_in {L : List Sg} {F : List Int} {b : Nat} {x y : Int} (h0 : fndE L F (isNo b) = 0) (he : enB x y = true) : meE L F b x y = 0 ∧ meB L F b x y = (okK L F b && (decide (loK L F b ≤ x) && decide (y ≤ hiK L F b))) := by
  have e : meE L F b x y = 0 := by unfold meE; rw [if_pos he, h0]
  refine ⟨e, ?_⟩
  unfold meB
  rw [e]
  rfl
theorem lo_hi_bd {L : List Sg} {F : List Int} {b n : Nat} (hv : layB L = true) (hk : bkC L F = true) (hb : b < F.length) : 0 ≤ loK L F b ∧ loK L F b ≤ 300000000000 ∧ hiK L F b ≤ 10000000000 := by
  obtain ⟨f, h, c, y, R, B⟩ := bl_of hv hk hb rfl
  have hc24 : c ≤ 24 := by have := B.ce; have := B.n24; have := B.lt; omega
  have h1 := ndN_bd R B.Rok c (by rw [B.Rl]; exact Nat.le_refl _)
  have h2 := hgK_le R c
  have e1 : loK L F b = ndN R c := by unfold loK; rw [← B.Re, ← B.cn]
  have e2 : hiK L F b ≤ hgK R c := by
    unfold hiK
    rw [← B.Re, ← B.cn]
    split
    · omega
    · exact Int.le_refl _
  omega
set_option maxRecDepth 100000 in
theorem i_MayEnter (a : Option Addr) (n cap : Nat) (L : List Sg) (A : Option Addr) (m capF : Nat) (F : List Int) (p x y : Int) (w : World) (hs : Sgs w a n L) (hf : Sl w A m F) (hcn : n ≤ cap) (hcF : m ≤ capF) :
    Calls Try.prog 51 #[.agg #[.slice a n cap], .slice A m capF, .int .i64 p, .agg #[.int .i64 x, .int .i64 y]] w fun e w' => e = .returned (.tuple #[.bool (meB L F p x y), .int .i64 (meE L F p x y)]) ∧ Later w w' := by
  have HC := fun w => i_sectionNumbered a n cap L A m capF F p w
  have HS := Lib.hid hs; have HF := Lib.hid hf
  cases he : enB x y
  · have e1 : Hid (meE L F p x y = 1) := Lib.hid (by unfold meE; rw [he]; rfl)
    have e2 : Hid (meB L F p x y = false) := Lib.hid (by unfold meB; rw [e1.out]; rfl)
    clear hs hf
    go_enter Try.func51, Try.ntmps51
    go_wp2_with (first | (go_at_call 64; refine (i_IsEnergy _ _ _).mono ?_; rintro e w1 ⟨rfl, hb⟩; obtain ⟨H, hcc, hff, hzz⟩ := later_facts hb; clear hb; (try simp at hzz); (try simp only [World.heap_drewN, World.cell?_drewN, World.frozen?_drewN] at hcc hff); have hz0 : w.heap.size < w1.heap.size := (by omega); (try (have hz1 : w.heap.size + 1 < w1.heap.size := (by omega))); (try (have hz2 : w.heap.size + 1 + 1 < w1.heap.size := (by omega))); (try (have hz3 : w.heap.size + 1 + 1 + 1 < w1.heap.size := (by omega))); (try (have hz4 : w.heap.size + 1 + 1 + 1 + 1 < w1.heap.size := (by omega)))))
    go_ret2
    exact ⟨ret_bi (by rw [e2.out]) (by rw [e1.out]), (by repeat (first | (with_reducible exact Later.refl _) | (with_reducible exact Hid.out (by assumption)) | (with_reducible refine Later.alloc ?_ _) | (with_reducible refine Later.setCell ?_ (by simp; omega) _) | (with_reducible refine Later.setCell ?_ (by simp) _) | (with_reducible refine Later.drewN ?_ _) | (with_reducible refine Later.drew ?_) | (with_reducible refine Later.trans ?_ (Hid.out (by assumption)))))⟩
  · by_cases h0 : fndE L F (isNo p) = 0
    · obtain ⟨b, rfl, hb, hv, hk, hsec⟩ := isNo_cases h0
      have HE := fun w (h : Sgs w a n L) => i_entryBounds a n cap L F b w h hcn hv hk hb
      rw [h0, hsec] at HC
      unfold scV at HC HE
      obtain ⟨e1, e2⟩ := meB_in h0 he
      have hbd := lo_hi_bd (n := n) hv hk hb
      have hen := (enB_iff x y).1 he
      generalize sec L F b = z at *
      obtain ⟨x0, x1, x2, x3, x4⟩ := z
      dsimp only at HC HE
      have E1 := Lib.hid e1
      cases ho : okK L F b
      · have ek : kE L F b = 5 := by unfold kE; rw [ho]; rfl
        rw [ho] at e2
        have E2 : Hid (meB L F b x y = false) := Lib.hid e2
        rw [ek] at HE
        clear hs hf h0 hsec e1 e2 hv hk hb hbd hen ek ho
        generalize okV 5 (loK L F b) = lo at *
        generalize okV 5 (hiK L F b) = hi at *
        go_enter Try.func51, Try.ntmps51
        go_wp2_with (first
          | (go_at_call 64; refine (i_IsEnergy _ _ _).mono ?_; rintro e w1 ⟨rfl, hb⟩; obtain ⟨H, hcc, hff, hzz⟩ := later_facts hb; clear hb; (try simp at hzz); (try simp only [World.heap_drewN, World.cell?_drewN, World.frozen?_drewN] at hcc hff); have hz0 : w.heap.size < w1.heap.size := (by omega); (try (have hz1 : w.heap.size + 1 < w1.heap.size := (by omega))); (try (have hz2 : w.heap.size + 1 + 1 < w1.heap.size := (by omega))); (try (have hz3 : w.heap.size + 1 + 1 + 1 < w1.heap.size := (by omega))); (try (have hz4 : w.heap.size + 1 + 1 + 1 + 1 < w1.heap.size := (by omega))))
          | (go_at_call 93; refine (HC _ (HS.out.later (by repeat (first | (with_reducible exact Later.refl _) | (with_reducible exact Hid.out (by assumption)) | (with_reducible refine Later.alloc ?_ _) | (with_reducible refine Later.setCell ?_ (by simp; omega) _) | (with_reducible refine Later.setCell ?_ (by simp) _) | (with_reducible refine Later.drewN ?_ _) | (with_reducible refine Later.drew ?_) | (with_reducible refine Later.trans ?_ (Hid.out (by assumption)))))) (HF.out.later (by repeat (first | (with_reducible exact Later.refl _) | (with_reducible exact Hid.out (by assumption)) | (with_reducible refine Later.alloc ?_ _) | (with_reducible refine Later.setCell ?_ (by simp; omega) _) | (with_reducible refine Later.setCell ?_ (by simp) _) | (with_reducible refine Later.drewN ?_ _) | (with_reducible refine Later.drew ?_) | (with_reducible refine Later.trans ?_ (Hid.out (by assumption)))))) hcn hcF).mono ?_; rintro e w1 ⟨rfl, hb⟩; obtain ⟨H, hcc, hff, hzz⟩ := later_facts hb; clear hb; (try simp at hzz); have hz0 : w.heap.size < w1.heap.size := (by omega); have hz1 : w.heap.size + 1 < w1.heap.size := (by omega))
          | (go_at_call 94; refine (HE _ (HS.out.later (by repeat (first | (with_reducible exact Later.refl _) | (with_reducible exact Hid.out (by assumption)) | (with_reducible refine Later.alloc ?_ _) | (with_reducible refine Later.setCell ?_ (by simp; omega) _) | (with_reducible refine Later.setCell ?_ (by simp) _) | (with_reducible refine Later.drewN ?_ _) | (with_reducible refine Later.drew ?_) | (with_reducible refine Later.trans ?_ (Hid.out (by assumption))))))).mono ?_; rintro e w2 ⟨rfl, hb⟩; obtain ⟨H, hcc, hff, hzz⟩ := later_facts hb; clear hb; (try simp at hzz); have hz0 : w.heap.size < w2.heap.size := (by omega); have hz1 : w.heap.size + 1 < w2.heap.size := (by omega)))
        go_ret2
        exact ⟨ret_bi (by rw [E2.out]) (by rw [E1.out]), (by repeat (first | (with_reducible exact Later.refl _) | (with_reducible exact Hid.out (by assumption)) | (with_reducible refine Later.alloc ?_ _) | (with_reducible refine Later.setCell ?_ (by simp; omega) _) | (with_reducible refine Later.setCell ?_ (by simp) _) | (with_reducible refine Later.drewN ?_ _) | (with_reducible refine Later.drew ?_) | (with_reducible refine Later.trans ?_ (Hid.out (by assumption)))))⟩
      · have ek : kE L F b = 0 := by unfold kE; rw [ho]; rfl
        have hle : loK L F b ≤ hiK L F b := by unfold okK at ho; simp at ho; exact ho.2
        rw [ho] at e2
        rw [ek] at HE
        have q1 : okV 0 (loK L F b) = loK L F b := rfl
        have q2 : okV 0 (hiK L F b) = hiK L F b := rfl
        rw [q1, q2] at HE
        obtain ⟨c, hc⟩ : ∃ c, c = meB L F b x y := ⟨_, rfl⟩
        have HW : Hid (winB (ivB x y && ivB (loK L F b) (hiK L F b)) x y (loK L F b) (hiK L F b) = c) := Lib.hid (by
          rw [hc, e2]
          have i1 : ivB x y = true := by rw [ivB_iff]; omega
          have i2 : ivB (loK L F b) (hiK L F b) = true := by rw [ivB_iff]; omega
          rw [i1, i2]
          unfold winB
          simp)
        have E2 := Lib.hid hc
        clear hs hf h0 hsec e1 e2 hv hk hb hbd hen ek ho hle q1 q2 hc
        generalize loK L F b = lo at *
        generalize hiK L F b = hi at *
        have HI := fun w => i_IsWithin x y lo hi w
        rw [HW.out] at HI
        go_enter Try.func51, Try.ntmps51
        go_wp2_with (first
          | (go_at_call 64; refine (i_IsEnergy _ _ _).mono ?_; rintro e w1 ⟨rfl, hb⟩; obtain ⟨H, hcc, hff, hzz⟩ := later_facts hb; clear hb; (try simp at hzz); (try simp only [World.heap_drewN, World.cell?_drewN, World.frozen?_drewN] at hcc hff); have hz0 : w.heap.size < w1.heap.size := (by omega); (try (have hz1 : w.heap.size + 1 < w1.heap.size := (by omega))); (try (have hz2 : w.heap.size + 1 + 1 < w1.heap.size := (by omega))); (try (have hz3 : w.heap.size + 1 + 1 + 1 < w1.heap.size := (by omega))); (try (have hz4 : w.heap.size + 1 + 1 + 1 + 1 < w1.heap.size := (by omega))))
          | (go_at_call 93; refine (HC _ (HS.out.later (by repeat (first | (with_reducible exact Later.refl _) | (with_reducible exact Hid.out (by assumption)) | (with_reducible refine Later.alloc ?_ _) | (with_reducible refine Later.setCell ?_ (by simp; omega) _) | (with_reducible refine Later.setCell ?_ (by simp) _) | (with_reducible refine Later.drewN ?_ _) | (with_reducible refine Later.drew ?_) | (with_reducible refine Later.trans ?_ (Hid.out (by assumption)))))) (HF.out.later (by repeat (first | (with_reducible exact Later.refl _) | (with_reducible exact Hid.out (by assumption)) | (with_reducible refine Later.alloc ?_ _) | (with_reducible refine Later.setCell ?_ (by simp; omega) _) | (with_reducible refine Later.setCell ?_ (by simp) _) | (with_reducible refine Later.drewN ?_ _) | (with_reducible refine Later.drew ?_) | (with_reducible refine Later.trans ?_ (Hid.out (by assumption)))))) hcn hcF).mono ?_; rintro e w1 ⟨rfl, hb⟩; obtain ⟨H, hcc, hff, hzz⟩ := later_facts hb; clear hb; (try simp at hzz); have hz0 : w.heap.size < w1.heap.size := (by omega); have hz1 : w.heap.size + 1 < w1.heap.size := (by omega))
          | (go_at_call 94; refine (HE _ (HS.out.later (by repeat (first | (with_reducible exact Later.refl _) | (with_reducible exact Hid.out (by assumption)) | (with_reducible refine Later.alloc ?_ _) | (with_reducible refine Later.setCell ?_ (by simp; omega) _) | (with_reducible refine Later.setCell ?_ (by simp) _) | (with_reducible refine Later.drewN ?_ _) | (with_reducible refine Later.drew ?_) | (with_reducible refine Later.trans ?_ (Hid.out (by assumption))))))).mono ?_; rintro e w2 ⟨rfl, hb⟩; obtain ⟨H, hcc, hff, hzz⟩ := later_facts hb; clear hb; (try simp at hzz); have hz0 : w.heap.size < w2.heap.size := (by omega); have hz1 : w.heap.size + 1 < w2.heap.size := (by omega))
          | (go_at_call 97; refine (HI _).mono ?_; rintro e w1 ⟨rfl, hb⟩; obtain ⟨H, hcc, hff, hzz⟩ := later_facts hb; clear hb; (try simp at hzz); (try simp only [World.heap_drewN, World.cell?_drewN, World.frozen?_drewN] at hcc hff); have hz0 : w.heap.size < w1.heap.size := (by omega); (try (have hz1 : w.heap.size + 1 < w1.heap.size := (by omega))); (try (have hz2 : w.heap.size + 1 + 1 < w1.heap.size := (by omega))); (try (have hz3 : w.heap.size + 1 + 1 + 1 < w1.heap.size := (by omega))); (try (have hz4 : w.heap.size + 1 + 1 + 1 + 1 < w1.heap.size := (by omega)))))
        go_ret2
        exact ⟨ret_bi (by rw [← E2.out]) (by rw [E1.out]), (by repeat (first | (with_reducible exact Later.refl _) | (with_reducible exact Hid.out (by assumption)) | (with_reducible refine Later.alloc ?_ _) | (with_reducible refine Later.setCell ?_ (by simp; omega) _) | (with_reducible refine Later.setCell ?_ (by simp) _) | (with_reducible refine Later.drewN ?_ _) | (with_reducible refine Later.drew ?_) | (with_reducible refine Later.trans ?_ (Hid.out (by assumption)))))⟩
    · have e1 : Hid (meE L F p x y = fndE L F (isNo p)) := Lib.hid (by unfold meE; rw [if_pos he])
      have e2 : Hid (meB L F p x y = false) := Lib.hid (by unfold meB; rw [e1.out]; simp [h0])
      unfold scV at HC
      generalize fndE L F (isNo p) = ce at *
      generalize fndC L F (isNo p) = z at *
      obtain ⟨x0, x1, x2, x3, x4⟩ := z
      dsimp only at HC
      have hne : (ce != 0) = true := by simpa using h0
      clear hs hf h0
      go_enter Try.func51, Try.ntmps51
      go_wp2_with (first
          | (go_at_call 64; refine (i_IsEnergy _ _ _).mono ?_; rintro e w1 ⟨rfl, hb⟩; obtain ⟨H, hcc, hff, hzz⟩ := later_facts hb; clear hb; (try simp at hzz); (try simp only [World.heap_drewN, World.cell?_drewN, World.frozen?_drewN] at hcc hff); have hz0 : w.heap.size < w1.heap.size := (by omega); (try (have hz1 : w.heap.size + 1 < w1.heap.size := (by omega))); (try (have hz2 : w.heap.size + 1 + 1 < w1.heap.size := (by omega))); (try (have hz3 : w.heap.size + 1 + 1 + 1 < w1.heap.size := (by omega))); (try (have hz4 : w.heap.size + 1 + 1 + 1 + 1 < w1.heap.size := (by omega))))
          | (go_at_call 93; refine (HC _ (HS.out.later (by repeat (first | (with_reducible exact Later.refl _) | (with_reducible exact Hid.out (by assumption)) | (with_reducible refine Later.alloc ?_ _) | (with_reducible refine Later.setCell ?_ (by simp; omega) _) | (with_reducible refine Later.setCell ?_ (by simp) _) | (with_reducible refine Later.drewN ?_ _) | (with_reducible refine Later.drew ?_) | (with_reducible refine Later.trans ?_ (Hid.out (by assumption)))))) (HF.out.later (by repeat (first | (with_reducible exact Later.refl _) | (with_reducible exact Hid.out (by assumption)) | (with_reducible refine Later.alloc ?_ _) | (with_reducible refine Later.setCell ?_ (by simp; omega) _) | (with_reducible refine Later.setCell ?_ (by simp) _) | (with_reducible refine Later.drewN ?_ _) | (with_reducible refine Later.drew ?_) | (with_reducible refine Later.trans ?_ (Hid.out (by assumption)))))) hcn hcF).mono ?_; rintro e w1 ⟨rfl, hb⟩; obtain ⟨H, hcc, hff, hzz⟩ := later_facts hb; clear hb; (try simp at hzz); have hz0 : w.heap.size < w1.heap.size := (by omega); have hz1 : w.heap.size + 1 < w1.heap.size := (by omega)))
      go_ret2
      exact ⟨ret_bi (by rw [e2.out]) (by rw [e1.out]), (by repeat (first | (with_reducible exact Later.refl _) | (with_reducible exact Hid.out (by assumption)) | (with_reducible refine Later.alloc ?_ _) | (with_reducible refine Later.setCell ?_ (by simp; omega) _) | (with_reducible refine Later.setCell ?_ (by simp) _) | (with_reducible refine Later.drewN ?_ _) | (with_reducible refine Later.drew ?_) | (with_reducible refine Later.trans ?_ (Hid.out (by assumption)))))⟩
end Go.Proofs.Ytdhoiiejcmnmbaa
namespace Go.Proofs.Ytdhoiiejcmnmbaa
open Go.RowKit
set_option maxHeartbeats 2000000
set_option linter.unusedVariables false
set_option linter.unusedSimpArgs false
theorem s_Ceil (a b : Int) (w : World) (h1 : -1000000000000 ≤ a) (h2 : a ≤ 1000000000000) (h3 : -1000000000000 ≤ b) (h4 : b ≤ 1000000000000) (h0 : b ≠ 0) :
    Calls Try.prog 70 #[.int .i64 a, .int .i64 b] w fun e w' => e = .returned (.int .i64 (cei a b)) ∧ w = w' := by
  have hb := flo_bd (-a) b 1000000000000 (by omega) (by omega)
  have hc := cei_eq a b h0
  have H := Lib.hid hc; clear hc
  go_enter Try.func70, Try.ntmps70
  go_wp2_with (go_at_call 75; refine (s_Floor _ _ _ (by omega) (by omega) h3 h4 h0).mono ?_; rintro e w' ⟨rfl, rfl⟩)
  go_ret
  exact ⟨ret_i64 (H.out).symm, rfl⟩
theorem i_DivideUp (a b : Int) (w : World) : Calls Try.prog 65 #[.int .i64 a, .int .i64 b] w fun e w' => e = .returned (.tuple #[.int .i64 (divU a b), .int .i64 (divErr a b)]) ∧ w = w' := by
  by_cases h : divErr a b = 0
  · obtain ⟨h1, h2, h3, h4, h0⟩ := divErr_0 a b h
    have hb := tdiv_bd a b _ h1 h2
    have e0 : (divErr a b != 0) = false := by simp [h]
    have H := Lib.hid h; clear h
    go_enter Try.func65, Try.ntmps65
    go_wp2_with (go_at_call 105; refine (i_divisionError _ _ _).mono ?_; rintro e w' ⟨rfl, rfl⟩)
    all_goals
      go_ret2
      have h := H.out
      exact ⟨ret_2i (by unfold divU cei; simp_all) (by simp_all), rfl⟩
  · have e0 : (divErr a b != 0) = true := by simp [h]
    have H := Lib.hid h; clear h
    go_enter Try.func65, Try.ntmps65
    go_wp2_with (go_at_call 105; refine (i_divisionError _ _ _).mono ?_; rintro e w' ⟨rfl, rfl⟩)
    go_ret2
    have h := H.out
    exact ⟨ret_2i (by unfold divU; simp_all) rfl, rfl⟩
end Go.Proofs.Ytdhoiiejcmnmbaa
namespace Go.Proofs.Ytdhoiiejcmnmbaa
open Go.RowKit
set_option maxHeartbeats 400000
set_option linter.unusedVariables false
theorem sq_succ (m : Int) : (m + 1) * (m + 1) = m * m + 2 * m + 1 := by rw [Int.add_mul, Int.mul_add]; omega
theorem mid_bd (m : Int) (h0 : 0 ≤ m) (h : m ≤ 1000000) : 0 ≤ m * m ∧ m * m ≤ 1000000000000 := ⟨sq_nn m, sq_mono m 1000000 h0 h⟩
theorem rootErr_in (n : Int) (h1 : 0 ≤ n) (h2 : n ≤ 1000000000000) : rootErr n = 0 := by unfold rootErr; rw [if_pos ⟨h1, h2⟩]
theorem rootErr_out (n : Int) (h : n < 0 ∨ 1000000000000 < n) : rootErr n = 2 := by unfold rootErr; rw [if_neg (by omega)]
end Go.Proofs.Ytdhoiiejcmnmbaa
namespace Go.Proofs.Ytdhoiiejcmnmbaa
open Go.RowKit
set_option maxHeartbeats 4000000
set_option linter.unusedVariables false
set_option linter.unusedSimpArgs false
theorem win_en2 (a b : Int) : (ivB a b && decide (0 ≤ a) && decide (b ≤ 10000000000)) = enB a b := by
  rw [Bool.eq_iff_iff]
  unfold enB
  simp [ivB_iff]
  omega
theorem s_IsEnergy (a b : Int) (w : World) : Calls Try.prog 68 #[.agg #[.int .i64 a, .int .i64 b]] w fun e w' => e = .returned (.bool (enB a b)) ∧ Later w w' := by
  have K : ∀ w, Calls Try.prog 107 #[.agg #[.int .i64 a, .int .i64 b], .int .i64 0, .int .i64 10000000000] w fun e w' => e = .returned (.bool (enB a b)) ∧ Later w w' := by
    intro w
    have E := Lib.hid (win_en2 a b)
    cases h : ivB a b
    all_goals
      go_enter Try.func107, Try.ntmps107
      go_wp2_with (go_at_call 126; refine (s_IsInterval _ _ _).mono ?_; rintro e w1 ⟨rfl, hb⟩; obtain ⟨H, hcc, hff, hzz⟩ := later_facts hb; clear hb; (try simp at hzz); (try simp only [World.heap_drewN, World.cell?_drewN, World.frozen?_drewN] at hcc hff); have hz0 : w.heap.size < w1.heap.size := (by omega); (try (have hz1 : w.heap.size + 1 < w1.heap.size := (by omega))); (try (have hz2 : w.heap.size + 1 + 1 < w1.heap.size := (by omega))); (try (have hz3 : w.heap.size + 1 + 1 + 1 < w1.heap.size := (by omega))); (try (have hz4 : w.heap.size + 1 + 1 + 1 + 1 < w1.heap.size := (by omega))))
      all_goals
        go_ret
        exact ⟨ret_b (by rw [← E.out, h]; first | (simp_all; done) | (simp_all; omega)), (by repeat (first | (with_reducible exact Later.refl _) | (with_reducible exact Hid.out (by assumption)) | (with_reducible refine Later.alloc ?_ _) | (with_reducible refine Later.setCell ?_ (by simp; omega) _) | (with_reducible refine Later.setCell ?_ (by simp) _) | (with_reducible refine Later.drewN ?_ _) | (with_reducible refine Later.drew ?_) | (with_reducible refine Later.trans ?_ (Hid.out (by assumption)))))⟩
  go_enter Try.func68, Try.ntmps68
  go_wp2_with (go_at_call 107; refine (K _).mono ?_; rintro e w1 ⟨rfl, hb⟩; obtain ⟨H, hcc, hff, hzz⟩ := later_facts hb; clear hb; (try simp at hzz); (try simp only [World.heap_drewN, World.cell?_drewN, World.frozen?_drewN] at hcc hff))
  go_ret
  exact ⟨rfl, (by repeat (first | (with_reducible exact Later.refl _) | (with_reducible exact Hid.out (by assumption)) | (with_reducible refine Later.alloc ?_ _) | (with_reducible refine Later.setCell ?_ (by simp; omega) _) | (with_reducible refine Later.setCell ?_ (by simp) _) | (with_reducible refine Later.drewN ?_ _) | (with_reducible refine Later.drew ?_) | (with_reducible refine Later.trans ?_ (Hid.out (by assumption)))))⟩
/-- the test decided ahead -/
theorem s_InB (n a b : Int) (c : Bool) (h : (decide (a ≤ n) && decide (n ≤ b)) = c) (w : World) : Calls Try.prog 69 #[.int .i64 n, .int .i64 a, .int .i64 b] w fun e w' => e = .returned (.bool c) ∧ w = w' := by
  subst h; exact s_In n a b w
theorem k2 (b l : Int) : 2 * b * l = b * (2 * l) := by rw [Int.mul_comm 2 b, Int.mul_assoc]
theorem s_Change (x : Sg) (w : World) (h : sgB x = true) :
    Calls Try.prog 62 #[.agg #[.int .i64 x.k, .int .i64 x.l, .int .i64 x.r, .int .i64 x.a, .int .i64 x.b, .int .i64 x.c, .int .i64 x.d]] w fun e w' => e = .returned (.agg #[.int .i64 (chL x), .int .i64 (chH x)]) ∧ Later w w' := by
  obtain ⟨b1, b2, b3⟩ := k_bd x h
  rw [sgB_iff] at h
  obtain ⟨⟨k1, k2⟩, ⟨l1, l2⟩, ⟨r1, r2, r3, r4⟩, ⟨a1, a2, a3⟩, _⟩ := h
  clear r3 r4
  unfold chL chH
  unfold kL kH at *
  rw [← Go.Proofs.Ytdhoiiejcmnmbaa.k2 x.a x.l] at *
  rw [← Go.Proofs.Ytdhoiiejcmnmbaa.k2 x.b x.l] at *
  go_enter Try.func62, Try.ntmps62
  go_wp2
  refine bodyPost_ret (v := .agg #[.int .i64 (-19612 * x.r - 2 * x.b * x.l), .int .i64 (-19612 * x.r - 2 * x.a * x.l)]) (by simp [results, Try.results62, go_sem, *]) rfl ⟨rfl, (by repeat (first | (with_reducible exact Later.refl _) | (with_reducible exact Hid.out (by assumption)) | (with_reducible refine Later.alloc ?_ _) | (with_reducible refine Later.setCell ?_ (by simp; omega) _) | (with_reducible refine Later.setCell ?_ (by simp) _) | (with_reducible refine Later.drewN ?_ _) | (with_reducible refine Later.drew ?_) | (with_reducible refine Later.trans ?_ (Hid.out (by assumption)))))⟩
theorem s_l06Sum (a b c d : Int) (w : World) (ha : -1000000000000 ≤ a) (ha' : a ≤ 1000000000000) (hb : -1000000000000 ≤ b) (hb' : b ≤ 1000000000000) (hc : -1000000000000 ≤ c) (hc' : c ≤ 1000000000000) (hd : -1000000000000 ≤ d) (hd' : d ≤ 1000000000000) :
    Calls Try.prog 100 #[.agg #[.int .i64 a, .int .i64 b], .agg #[.int .i64 c, .int .i64 d]] w fun e w' => e = .returned (.agg #[.int .i64 (a + c), .int .i64 (b + d)]) ∧ Later w w' := by
  go_enter Try.func100, Try.ntmps100
  go_wp2
  refine bodyPost_ret (v := .agg #[.int .i64 (a + c), .int .i64 (b + d)]) (by simp [results, Try.results100, go_sem, *]) rfl ⟨rfl, (by repeat (first | (with_reducible exact Later.refl _) | (with_reducible exact Hid.out (by assumption)) | (with_reducible refine Later.alloc ?_ _) | (with_reducible refine Later.setCell ?_ (by simp; omega) _) | (with_reducible refine Later.setCell ?_ (by simp) _) | (with_reducible refine Later.drewN ?_ _) | (with_reducible refine Later.drew ?_) | (with_reducible refine Later.trans ?_ (Hid.out (by assumption)))))⟩
end Go.Proofs.Ytdhoiiejcmnmbaa
namespace Go.Proofs.Ytdhoiiejcmnmbaa
open Go.RowKit
set_option maxHeartbeats 4000000
set_option linter.unusedVariables false
set_option linter.unusedSimpArgs false
end Go.Proofs.Ytdhoiiejcmnmbaa
namespace Go.Proofs.Ytdhoiiejcmnmbaa
open Go.RowKit
set_option maxHeartbeats 4000000
set_option linter.unusedVariables false
set_option linter.unusedSimpArgs false
theorem s_FloorB (a b : Int) (w : World) (h1 : -4000000000000000000 ≤ a) (h2 : a ≤ 4000000000000000000) (h3 : -1000000000000 ≤ b) (h4 : b ≤ 1000000000000) (h0 : b ≠ 0) :
    Calls Try.prog 75 #[.int .i64 a, .int .i64 b] w fun e w' => e = .returned (.int .i64 (flo a b)) ∧ w = w' := by
  have hb := tdiv_bd a b _ h1 h2
  go_enter Try.func75, Try.ntmps75
  go_wp2
  all_goals
    go_ret
    exact ⟨ret_i64 (by unfold flo; simp_all), rfl⟩
theorem flo_bdB (a b : Int) (m : Int) (h1 : -m ≤ a) (h2 : a ≤ m) : -m - 1 ≤ flo a b ∧ flo a b ≤ m := flo_bd a b m h1 h2
theorem s_CeilB (a b : Int) (w : World) (h1 : -4000000000000000000 ≤ a) (h2 : a ≤ 4000000000000000000) (h3 : -1000000000000 ≤ b) (h4 : b ≤ 1000000000000) (h0 : b ≠ 0) :
    Calls Try.prog 70 #[.int .i64 a, .int .i64 b] w fun e w' => e = .returned (.int .i64 (cei a b)) ∧ w = w' := by
  have hb := flo_bd (-a) b 4000000000000000000 (by omega) (by omega)
  rw [cei_eq a b h0]
  go_enter Try.func70, Try.ntmps70
  go_wp2_with (go_at_call 75; refine (s_FloorB _ _ _ (by omega) (by omega) (by omega) (by omega) h0).mono ?_; rintro e w' ⟨rfl, rfl⟩)
  go_ret
  exact ⟨rfl, rfl⟩
theorem s_Brake (x : Sg) (c : Bool) (h : brk x.k = c) (w : World) : Calls Try.prog 87 #[.agg #[.int .i64 x.k, .int .i64 x.l, .int .i64 x.r, .int .i64 x.a, .int .i64 x.b, .int .i64 x.c, .int .i64 x.d]] w fun e w' => e = .returned (.bool c) ∧ Later w w' := by
  subst h
  have key : ∀ p q : Bool, decide (x.k = 3) = p → decide (x.k = 4) = q → Hid (brk x.k = (p || q)) := by
    rintro p q rfl rfl; exact Lib.hid rfl
  cases h3 : decide (x.k = 3) <;> cases h4 : decide (x.k = 4)
  all_goals
    have K := key _ _ h3 h4
    clear key
    have e3 := (show (x.k == 3) = decide (x.k = 3) from rfl).trans h3
    have e4 := (show (x.k == 4) = decide (x.k = 4) from rfl).trans h4
    clear h3 h4
    go_enter Try.func87, Try.ntmps87
    go_wp2
    go_ret
    exact ⟨ret_b (by first | rfl | (rw [K.out]; rfl)), (by repeat (first | (with_reducible exact Later.refl _) | (with_reducible exact Hid.out (by assumption)) | (with_reducible refine Later.alloc ?_ _) | (with_reducible refine Later.setCell ?_ (by simp; omega) _) | (with_reducible refine Later.setCell ?_ (by simp) _) | (with_reducible refine Later.drewN ?_ _) | (with_reducible refine Later.drew ?_) | (with_reducible refine Later.trans ?_ (Hid.out (by assumption)))))⟩
theorem wk_eq (f a l r : Int) : 2 * ((f + a) * l + 9806 * r) = f * (2 * l) - (-19612 * r - a * (2 * l)) := by
  rw [Int.add_mul, ← Go.Proofs.Ytdhoiiejcmnmbaa.k2 f l, ← Go.Proofs.Ytdhoiiejcmnmbaa.k2 a l, Int.mul_assoc, Int.mul_assoc]
  omega
theorem s_Work (x : Sg) (w : World) (h : sgB x = true) :
    Calls Try.prog 86 #[.agg #[.int .i64 x.k, .int .i64 x.l, .int .i64 x.r, .int .i64 x.a, .int .i64 x.b, .int .i64 x.c, .int .i64 x.d]] w fun e w' => e = .returned (.agg #[.int .i64 (wkL x), .int .i64 (wkH x)]) ∧ Later w w' := by
  obtain ⟨g1, g2, g3, g4, g5, g6⟩ := fc_bd x h
  obtain ⟨b1, b2, b3⟩ := k_bd x h
  obtain ⟨t1, t2, t3⟩ := wk_bd x h
  rw [sgB_iff] at h
  obtain ⟨⟨k1, k2⟩, ⟨l1, l2⟩, ⟨r1, r2, r3, r4⟩, ⟨a1, a2, a3⟩, _⟩ := h
  have q1 : wkL x = 2 * ((x.c + x.a) * x.l + 9806 * x.r) := (wk_eq x.c x.a x.l x.r).symm
  have q2 : wkH x = 2 * ((x.d + x.b) * x.l + 9806 * x.r) := (wk_eq x.d x.b x.l x.r).symm
  rw [q1] at t1 t2
  rw [q2] at t2 t3
  rw [q1, q2]
  clear r3 r4 q1 q2 b1 b2 b3 g4 g5 g6
  generalize hA : (x.c + x.a) * x.l = A at *
  generalize hB : (x.d + x.b) * x.l = B at *
  have wA : IntKind.i64.wrap ((x.c + x.a) * x.l) = A := by rw [hA]; exact IntWalk.i64_in _ ⟨by omega, by omega⟩
  have wB : IntKind.i64.wrap ((x.d + x.b) * x.l) = B := by rw [hB]; exact IntWalk.i64_in _ ⟨by omega, by omega⟩
  clear hA hB
  have c1 : IntKind.i64.wrap (x.c + x.a) = x.c + x.a := IntWalk.i64_in _ ⟨by omega, by omega⟩
  have c2 : IntKind.i64.wrap (x.d + x.b) = x.d + x.b := IntWalk.i64_in _ ⟨by omega, by omega⟩
  have c3 : IntKind.i64.wrap (A + 9806 * x.r) = A + 9806 * x.r := IntWalk.i64_in _ ⟨by omega, by omega⟩
  have c4 : IntKind.i64.wrap (B + 9806 * x.r) = B + 9806 * x.r := IntWalk.i64_in _ ⟨by omega, by omega⟩
  have c5 : IntKind.i64.wrap (2 * (A + 9806 * x.r)) = 2 * (A + 9806 * x.r) := IntWalk.i64_in _ ⟨by omega, by omega⟩
  have c6 : IntKind.i64.wrap (2 * (B + 9806 * x.r)) = 2 * (B + 9806 * x.r) := IntWalk.i64_in _ ⟨by omega, by omega⟩
  go_enter Try.func86, Try.ntmps86
  go_wp2
  refine bodyPost_ret (v := .agg #[.int .i64 (2 * (A + 9806 * x.r)), .int .i64 (2 * (B + 9806 * x.r))]) (by simp [results, Try.results86, go_sem, *]) rfl ⟨rfl, (by repeat (first | (with_reducible exact Later.refl _) | (with_reducible exact Hid.out (by assumption)) | (with_reducible refine Later.alloc ?_ _) | (with_reducible refine Later.setCell ?_ (by simp; omega) _) | (with_reducible refine Later.setCell ?_ (by simp) _) | (with_reducible refine Later.drewN ?_ _) | (with_reducible refine Later.drew ?_) | (with_reducible refine Later.trans ?_ (Hid.out (by assumption)))))⟩
theorem s_Code (x : Sg) (w : World) : Calls Try.prog 91 #[.agg #[.int .i64 x.k, .int .i64 x.l, .int .i64 x.r, .int .i64 x.a, .int .i64 x.b, .int .i64 x.c, .int .i64 x.d]] w fun e w' => e = .returned (.int .i64 (brE x)) ∧ Later w w' := by
  cases h : sgB x
  · have e1 : Hid (brE x = 1) := Lib.hid (by unfold brE; rw [h]; rfl)
    go_enter Try.func91, Try.ntmps91
    go_wp2_with (go_at_call 67; refine (s_IsSegment x _).mono ?_; rintro e w1 ⟨rfl, hb⟩; obtain ⟨H, hcc, hff, hzz⟩ := later_facts hb; clear hb; (try simp at hzz); (try simp only [World.heap_drewN, World.cell?_drewN, World.frozen?_drewN] at hcc hff); have hz0 : w.heap.size < w1.heap.size := (by omega); (try (have hz1 : w.heap.size + 1 < w1.heap.size := (by omega))); (try (have hz2 : w.heap.size + 1 + 1 < w1.heap.size := (by omega))); (try (have hz3 : w.heap.size + 1 + 1 + 1 < w1.heap.size := (by omega))); (try (have hz4 : w.heap.size + 1 + 1 + 1 + 1 < w1.heap.size := (by omega))))
    go_ret
    exact ⟨ret_i64 e1.out.symm, (by repeat (first | (with_reducible exact Later.refl _) | (with_reducible exact Hid.out (by assumption)) | (with_reducible refine Later.alloc ?_ _) | (with_reducible refine Later.setCell ?_ (by simp; omega) _) | (with_reducible refine Later.setCell ?_ (by simp) _) | (with_reducible refine Later.drewN ?_ _) | (with_reducible refine Later.drew ?_) | (with_reducible refine Later.trans ?_ (Hid.out (by assumption)))))⟩
  · cases h2 : brk x.k
    · have e1 : Hid (brE x = 5) := Lib.hid (by unfold brE; rw [h, h2]; rfl)
      go_enter Try.func91, Try.ntmps91
      go_wp2_with (first | (go_at_call 67; refine (s_IsSegment x _).mono ?_; rintro e w1 ⟨rfl, hb⟩; obtain ⟨H, hcc, hff, hzz⟩ := later_facts hb; clear hb; (try simp at hzz); (try simp only [World.heap_drewN, World.cell?_drewN, World.frozen?_drewN] at hcc hff); have hz0 : w.heap.size < w1.heap.size := (by omega); (try (have hz1 : w.heap.size + 1 < w1.heap.size := (by omega))); (try (have hz2 : w.heap.size + 1 + 1 < w1.heap.size := (by omega))); (try (have hz3 : w.heap.size + 1 + 1 + 1 < w1.heap.size := (by omega))); (try (have hz4 : w.heap.size + 1 + 1 + 1 + 1 < w1.heap.size := (by omega)))) | (go_at_call 87; refine (s_Brake x _ h2 _).mono ?_; rintro e w1 ⟨rfl, hb⟩; obtain ⟨H, hcc, hff, hzz⟩ := later_facts hb; clear hb; (try simp at hzz); (try simp only [World.heap_drewN, World.cell?_drewN, World.frozen?_drewN] at hcc hff); have hz0 : w.heap.size < w1.heap.size := (by omega); (try (have hz1 : w.heap.size + 1 < w1.heap.size := (by omega))); (try (have hz2 : w.heap.size + 1 + 1 < w1.heap.size := (by omega))); (try (have hz3 : w.heap.size + 1 + 1 + 1 < w1.heap.size := (by omega))); (try (have hz4 : w.heap.size + 1 + 1 + 1 + 1 < w1.heap.size := (by omega)))))
      go_ret
      exact ⟨ret_i64 e1.out.symm, (by repeat (first | (with_reducible exact Later.refl _) | (with_reducible exact Hid.out (by assumption)) | (with_reducible refine Later.alloc ?_ _) | (with_reducible refine Later.setCell ?_ (by simp; omega) _) | (with_reducible refine Later.setCell ?_ (by simp) _) | (with_reducible refine Later.drewN ?_ _) | (with_reducible refine Later.drew ?_) | (with_reducible refine Later.trans ?_ (Hid.out (by assumption)))))⟩
    · have e1 : Hid (brE x = 0) := Lib.hid (by unfold brE; rw [h, h2]; rfl)
      go_enter Try.func91, Try.ntmps91
      go_wp2_with (first | (go_at_call 67; refine (s_IsSegment x _).mono ?_; rintro e w1 ⟨rfl, hb⟩; obtain ⟨H, hcc, hff, hzz⟩ := later_facts hb; clear hb; (try simp at hzz); (try simp only [World.heap_drewN, World.cell?_drewN, World.frozen?_drewN] at hcc hff); have hz0 : w.heap.size < w1.heap.size := (by omega); (try (have hz1 : w.heap.size + 1 < w1.heap.size := (by omega))); (try (have hz2 : w.heap.size + 1 + 1 < w1.heap.size := (by omega))); (try (have hz3 : w.heap.size + 1 + 1 + 1 < w1.heap.size := (by omega))); (try (have hz4 : w.heap.size + 1 + 1 + 1 + 1 < w1.heap.size := (by omega)))) | (go_at_call 87; refine (s_Brake x _ h2 _).mono ?_; rintro e w1 ⟨rfl, hb⟩; obtain ⟨H, hcc, hff, hzz⟩ := later_facts hb; clear hb; (try simp at hzz); (try simp only [World.heap_drewN, World.cell?_drewN, World.frozen?_drewN] at hcc hff); have hz0 : w.heap.size < w1.heap.size := (by omega); (try (have hz1 : w.heap.size + 1 < w1.heap.size := (by omega))); (try (have hz2 : w.heap.size + 1 + 1 < w1.heap.size := (by omega))); (try (have hz3 : w.heap.size + 1 + 1 + 1 < w1.heap.size := (by omega))); (try (have hz4 : w.heap.size + 1 + 1 + 1 + 1 < w1.heap.size := (by omega)))))
      go_ret
      exact ⟨ret_i64 e1.out.symm, (by repeat (first | (with_reducible exact Later.refl _) | (with_reducible exact Hid.out (by assumption)) | (with_reducible refine Later.alloc ?_ _) | (with_reducible refine Later.setCell ?_ (by simp; omega) _) | (with_reducible refine Later.setCell ?_ (by simp) _) | (with_reducible refine Later.drewN ?_ _) | (with_reducible refine Later.drew ?_) | (with_reducible refine Later.trans ?_ (Hid.out (by assumption)))))⟩
theorem s_BrakeWork (x : Sg) (w : World) :
    Calls Try.prog 46 #[.agg #[.int .i64 x.k, .int .i64 x.l, .int .i64 x.r, .int .i64 x.a, .int .i64 x.b, .int .i64 x.c, .int .i64 x.d]] w fun e w' => e = .returned (.tuple #[.agg #[.int .i64 (bwL x), .int .i64 (bwH x)], .int .i64 (brE x)]) ∧ Later w w' := by
  have HC := fun w => s_Code x w
  by_cases h : brE x = 0
  · have b2 : bwL x = wkL x := by unfold bwL; rw [h]; rfl
    have b3 : bwH x = wkH x := by unfold bwH; rw [h]; rfl
    have HS := fun w => s_Work x w (brE_ok h).1
    rw [h] at HC
    rw [h, b2, b3]
    generalize wkL x = p at *
    generalize wkH x = q at *
    clear h b2 b3
    go_enter Try.func46, Try.ntmps46
    go_wp2_with (first | (go_at_call 91; refine (HC _).mono ?_; rintro e w1 ⟨rfl, hb⟩; obtain ⟨H, hcc, hff, hzz⟩ := later_facts hb; clear hb; (try simp at hzz); (try simp only [World.heap_drewN, World.cell?_drewN, World.frozen?_drewN] at hcc hff); have hz0 : w.heap.size < w1.heap.size := (by omega); (try (have hz1 : w.heap.size + 1 < w1.heap.size := (by omega))); (try (have hz2 : w.heap.size + 1 + 1 < w1.heap.size := (by omega))); (try (have hz3 : w.heap.size + 1 + 1 + 1 < w1.heap.size := (by omega))); (try (have hz4 : w.heap.size + 1 + 1 + 1 + 1 < w1.heap.size := (by omega)))) | (go_at_call 86; refine (HS _).mono ?_; rintro e w1 ⟨rfl, hb⟩; obtain ⟨H, hcc, hff, hzz⟩ := later_facts hb; clear hb; (try simp at hzz); (try simp only [World.heap_drewN, World.cell?_drewN, World.frozen?_drewN] at hcc hff); have hz0 : w.heap.size < w1.heap.size := (by omega); (try (have hz1 : w.heap.size + 1 < w1.heap.size := (by omega))); (try (have hz2 : w.heap.size + 1 + 1 < w1.heap.size := (by omega))); (try (have hz3 : w.heap.size + 1 + 1 + 1 < w1.heap.size := (by omega))); (try (have hz4 : w.heap.size + 1 + 1 + 1 + 1 < w1.heap.size := (by omega)))))
    refine bodyPost_ret (v := .tuple #[.agg #[.int .i64 p, .int .i64 q], .int .i64 0]) (by simp [results, Try.results46, go_sem, *]) rfl ⟨rfl, (by repeat (first | (with_reducible exact Later.refl _) | (with_reducible exact Hid.out (by assumption)) | (with_reducible refine Later.alloc ?_ _) | (with_reducible refine Later.setCell ?_ (by simp; omega) _) | (with_reducible refine Later.setCell ?_ (by simp) _) | (with_reducible refine Later.drewN ?_ _) | (with_reducible refine Later.drew ?_) | (with_reducible refine Later.trans ?_ (Hid.out (by assumption)))))⟩
  · have b2 : bwL x = 0 := by unfold bwL okV; rw [if_neg h]
    have b3 : bwH x = 0 := by unfold bwH okV; rw [if_neg h]
    rw [b2, b3]
    generalize brE x = q at *
    have hne : (q != 0) = true := by simpa using h
    clear h b2 b3
    go_enter Try.func46, Try.ntmps46
    go_wp2_with (go_at_call 91; refine (HC _).mono ?_; rintro e w1 ⟨rfl, hb⟩; obtain ⟨H, hcc, hff, hzz⟩ := later_facts hb; clear hb; (try simp at hzz); (try simp only [World.heap_drewN, World.cell?_drewN, World.frozen?_drewN] at hcc hff); have hz0 : w.heap.size < w1.heap.size := (by omega); (try (have hz1 : w.heap.size + 1 < w1.heap.size := (by omega))); (try (have hz2 : w.heap.size + 1 + 1 < w1.heap.size := (by omega))); (try (have hz3 : w.heap.size + 1 + 1 + 1 < w1.heap.size := (by omega))); (try (have hz4 : w.heap.size + 1 + 1 + 1 + 1 < w1.heap.size := (by omega))))
    refine bodyPost_ret (v := .tuple #[.agg #[.int .i64 0, .int .i64 0], .int .i64 q]) (by simp [results, Try.results46, go_sem, *]) rfl ⟨rfl, (by repeat (first | (with_reducible exact Later.refl _) | (with_reducible exact Hid.out (by assumption)) | (with_reducible refine Later.alloc ?_ _) | (with_reducible refine Later.setCell ?_ (by simp; omega) _) | (with_reducible refine Later.setCell ?_ (by simp) _) | (with_reducible refine Later.drewN ?_ _) | (with_reducible refine Later.drew ?_) | (with_reducible refine Later.trans ?_ (Hid.out (by assumption)))))⟩
theorem s_GreatestStop (x : Sg) (w : World) :
    Calls Try.prog 52 #[.agg #[.int .i64 x.k, .int .i64 x.l, .int .i64 x.r, .int .i64 x.a, .int .i64 x.b, .int .i64 x.c, .int .i64 x.d]] w fun e w' => e = .returned (.tuple #[.int .i64 (gsV x), .int .i64 (slE x)]) ∧ Later w w' := by
  have HC := fun w => s_Code x w
  by_cases h : brE x = 0
  · have HS := fun w => s_Work x w (brE_ok h).1
    have e0 : Hid (slE x = if 1 ≤ wkL x then 0 else 5) := Lib.hid (by unfold slE; rw [if_pos h])
    have e1 : Hid (gsV x = if 1 ≤ wkL x then min (wkL x) 10000000000 else 0) := Lib.hid (by unfold gsV okV; rw [e0.out]; split <;> simp)
    rw [h] at HC
    generalize wkL x = p at *
    generalize wkH x = q at *
    have hfd : ∀ w : World, (Instr.field 25 (.agg #[.int .i64 p, .int .i64 q]) 0).run Try.prog w = .ok (.int .i64 p) w := fun _ => by kernel_rfl
    clear h
    by_cases h1 : 1 ≤ p
    · go_enter Try.func52, Try.ntmps52
      go_wp2_with (first | (go_at_call 91; refine (HC _).mono ?_; rintro e w1 ⟨rfl, hb⟩; obtain ⟨H, hcc, hff, hzz⟩ := later_facts hb; clear hb; (try simp at hzz); (try simp only [World.heap_drewN, World.cell?_drewN, World.frozen?_drewN] at hcc hff); have hz0 : w.heap.size < w1.heap.size := (by omega); (try (have hz1 : w.heap.size + 1 < w1.heap.size := (by omega))); (try (have hz2 : w.heap.size + 1 + 1 < w1.heap.size := (by omega))); (try (have hz3 : w.heap.size + 1 + 1 + 1 < w1.heap.size := (by omega))); (try (have hz4 : w.heap.size + 1 + 1 + 1 + 1 < w1.heap.size := (by omega)))) | (go_at_call 86; refine (HS _).mono ?_; rintro e w1 ⟨rfl, hb⟩; obtain ⟨H, hcc, hff, hzz⟩ := later_facts hb; clear hb; (try simp at hzz); (try simp only [World.heap_drewN, World.cell?_drewN, World.frozen?_drewN] at hcc hff); have hz0 : w.heap.size < w1.heap.size := (by omega); (try (have hz1 : w.heap.size + 1 < w1.heap.size := (by omega))); (try (have hz2 : w.heap.size + 1 + 1 < w1.heap.size := (by omega))); (try (have hz3 : w.heap.size + 1 + 1 + 1 < w1.heap.size := (by omega))); (try (have hz4 : w.heap.size + 1 + 1 + 1 + 1 < w1.heap.size := (by omega)))))
      all_goals
        go_ret2
        exact ⟨ret_2i (by rw [e1.out, if_pos h1]; omega) (by rw [e0.out, if_pos h1]), (by repeat (first | (with_reducible exact Later.refl _) | (with_reducible exact Hid.out (by assumption)) | (with_reducible refine Later.alloc ?_ _) | (with_reducible refine Later.setCell ?_ (by simp; omega) _) | (with_reducible refine Later.setCell ?_ (by simp) _) | (with_reducible refine Later.drewN ?_ _) | (with_reducible refine Later.drew ?_) | (with_reducible refine Later.trans ?_ (Hid.out (by assumption)))))⟩
    · have h2 : p < 1 := by omega
      go_enter Try.func52, Try.ntmps52
      go_wp2_with (first | (go_at_call 91; refine (HC _).mono ?_; rintro e w1 ⟨rfl, hb⟩; obtain ⟨H, hcc, hff, hzz⟩ := later_facts hb; clear hb; (try simp at hzz); (try simp only [World.heap_drewN, World.cell?_drewN, World.frozen?_drewN] at hcc hff); have hz0 : w.heap.size < w1.heap.size := (by omega); (try (have hz1 : w.heap.size + 1 < w1.heap.size := (by omega))); (try (have hz2 : w.heap.size + 1 + 1 < w1.heap.size := (by omega))); (try (have hz3 : w.heap.size + 1 + 1 + 1 < w1.heap.size := (by omega))); (try (have hz4 : w.heap.size + 1 + 1 + 1 + 1 < w1.heap.size := (by omega)))) | (go_at_call 86; refine (HS _).mono ?_; rintro e w1 ⟨rfl, hb⟩; obtain ⟨H, hcc, hff, hzz⟩ := later_facts hb; clear hb; (try simp at hzz); (try simp only [World.heap_drewN, World.cell?_drewN, World.frozen?_drewN] at hcc hff); have hz0 : w.heap.size < w1.heap.size := (by omega); (try (have hz1 : w.heap.size + 1 < w1.heap.size := (by omega))); (try (have hz2 : w.heap.size + 1 + 1 < w1.heap.size := (by omega))); (try (have hz3 : w.heap.size + 1 + 1 + 1 < w1.heap.size := (by omega))); (try (have hz4 : w.heap.size + 1 + 1 + 1 + 1 < w1.heap.size := (by omega)))))
      go_ret2
      exact ⟨ret_2i (by rw [e1.out, if_neg (by omega)]) (by rw [e0.out, if_neg (by omega)]), (by repeat (first | (with_reducible exact Later.refl _) | (with_reducible exact Hid.out (by assumption)) | (with_reducible refine Later.alloc ?_ _) | (with_reducible refine Later.setCell ?_ (by simp; omega) _) | (with_reducible refine Later.setCell ?_ (by simp) _) | (with_reducible refine Later.drewN ?_ _) | (with_reducible refine Later.drew ?_) | (with_reducible refine Later.trans ?_ (Hid.out (by assumption)))))⟩
  · have e0 : slE x = brE x := by unfold slE; rw [if_neg h]
    have e1 : gsV x = 0 := by unfold gsV okV; rw [e0, if_neg h]
    rw [e0, e1]
    generalize brE x = q at *
    have hne : (q != 0) = true := by simpa using h
    have hne2 : (q == 0) = false := by simpa using h
    clear h e0 e1
    go_enter Try.func52, Try.ntmps52
    go_wp2_with (first | (go_at_call 91; refine (HC _).mono ?_; rintro e w1 ⟨rfl, hb⟩; obtain ⟨H, hcc, hff, hzz⟩ := later_facts hb; clear hb; (try simp at hzz); (try simp only [World.heap_drewN, World.cell?_drewN, World.frozen?_drewN] at hcc hff); have hz0 : w.heap.size < w1.heap.size := (by omega); (try (have hz1 : w.heap.size + 1 < w1.heap.size := (by omega))); (try (have hz2 : w.heap.size + 1 + 1 < w1.heap.size := (by omega))); (try (have hz3 : w.heap.size + 1 + 1 + 1 < w1.heap.size := (by omega))); (try (have hz4 : w.heap.size + 1 + 1 + 1 + 1 < w1.heap.size := (by omega)))))
    go_ret2
    exact ⟨rfl, (by repeat (first | (with_reducible exact Later.refl _) | (with_reducible exact Hid.out (by assumption)) | (with_reducible refine Later.alloc ?_ _) | (with_reducible refine Later.setCell ?_ (by simp; omega) _) | (with_reducible refine Later.setCell ?_ (by simp) _) | (with_reducible refine Later.drewN ?_ _) | (with_reducible refine Later.drew ?_) | (with_reducible refine Later.trans ?_ (Hid.out (by assumption)))))⟩
theorem s_StoppingDistance (x : Sg) (a b : Int) (w : World) :
    Calls Try.prog 42 #[.agg #[.int .i64 x.k, .int .i64 x.l, .int .i64 x.r, .int .i64 x.a, .int .i64 x.b, .int .i64 x.c, .int .i64 x.d], .agg #[.int .i64 a, .int .i64 b]] w fun e w' => e = .returned (.tuple #[.agg #[.int .i64 (dsL x a b), .int .i64 (dsH x a b)], .int .i64 (dsE x a b)]) ∧ Later w w' := by
  cases h0 : sgB x
  · have e1 : dsE x a b = 1 := by unfold dsE slE brE; rw [h0]; cases enB a b <;> rfl
    have e2 : dsL x a b = 0 := by unfold dsL; rw [e1]; rfl
    have e3 : dsH x a b = 0 := by unfold dsH; rw [e1]; rfl
    rw [e1, e2, e3]
    clear e1 e2 e3
    go_enter Try.func42, Try.ntmps42
    go_wp2_with (first | (go_at_call 67; refine (s_IsSegment x _).mono ?_; rintro e w1 ⟨rfl, hb⟩; obtain ⟨H, hcc, hff, hzz⟩ := later_facts hb; clear hb; (try simp at hzz); (try simp only [World.heap_drewN, World.cell?_drewN, World.frozen?_drewN] at hcc hff); have hz0 : w.heap.size < w1.heap.size := (by omega); (try (have hz1 : w.heap.size + 1 < w1.heap.size := (by omega))); (try (have hz2 : w.heap.size + 1 + 1 < w1.heap.size := (by omega))); (try (have hz3 : w.heap.size + 1 + 1 + 1 < w1.heap.size := (by omega))); (try (have hz4 : w.heap.size + 1 + 1 + 1 + 1 < w1.heap.size := (by omega)))) | (go_at_call 68; refine (s_IsEnergy _ _ _).mono ?_; rintro e w1 ⟨rfl, hb⟩; obtain ⟨H, hcc, hff, hzz⟩ := later_facts hb; clear hb; (try simp at hzz); (try simp only [World.heap_drewN, World.cell?_drewN, World.frozen?_drewN] at hcc hff); have hz0 : w.heap.size < w1.heap.size := (by omega); (try (have hz1 : w.heap.size + 1 < w1.heap.size := (by omega))); (try (have hz2 : w.heap.size + 1 + 1 < w1.heap.size := (by omega))); (try (have hz3 : w.heap.size + 1 + 1 + 1 < w1.heap.size := (by omega))); (try (have hz4 : w.heap.size + 1 + 1 + 1 + 1 < w1.heap.size := (by omega)))))
    refine bodyPost_ret (v := .tuple #[.agg #[.int .i64 0, .int .i64 0], .int .i64 1]) (by simp [results, Try.results42, go_sem, *]) rfl ⟨rfl, (by repeat (first | (with_reducible exact Later.refl _) | (with_reducible exact Hid.out (by assumption)) | (with_reducible refine Later.alloc ?_ _) | (with_reducible refine Later.setCell ?_ (by simp; omega) _) | (with_reducible refine Later.setCell ?_ (by simp) _) | (with_reducible refine Later.drewN ?_ _) | (with_reducible refine Later.drew ?_) | (with_reducible refine Later.trans ?_ (Hid.out (by assumption)))))⟩
  · cases h1 : enB a b
    · have e1 : dsE x a b = 1 := by unfold dsE; rw [h1]; rfl
      have e2 : dsL x a b = 0 := by unfold dsL; rw [e1]; rfl
      have e3 : dsH x a b = 0 := by unfold dsH; rw [e1]; rfl
      rw [e1, e2, e3]
      clear e1 e2 e3
      go_enter Try.func42, Try.ntmps42
      go_upto_region 1 with (fail)
      refine into (fun W => Held [(w.heap.size + 1, 0, .int .i64 a), (w.heap.size + 1, 1, .int .i64 b), (w.heap.size, 0, .int .i64 x.k), (w.heap.size, 1, .int .i64 x.l), (w.heap.size, 2, .int .i64 x.r), (w.heap.size, 3, .int .i64 x.a), (w.heap.size, 4, .int .i64 x.b), (w.heap.size, 5, .int .i64 x.c), (w.heap.size, 6, .int .i64 x.d)] w W ∧ Fr (w.heap.size + 1 + 1) [.int .i64 0, .int .i64 0] W) ⟨?_, ?_⟩ ?_
      · exact (held_box (held_box (held_start w) w.heap.size [.int .i64 x.k, .int .i64 x.l, .int .i64 x.r, .int .i64 x.a, .int .i64 x.b, .int .i64 x.c, .int .i64 x.d] _ rfl) (w.heap.size + 1) [.int .i64 a, .int .i64 b] _ (by simp)).alloc _
      · have F := fr_alloc (X := (w.alloc (.cells [.int .i64 x.k, .int .i64 x.l, .int .i64 x.r, .int .i64 x.a, .int .i64 x.b, .int .i64 x.c, .int .i64 x.d].toArray 27)).alloc (.cells [Value.int .i64 a, .int .i64 b].toArray 25)) (l := [.int .i64 0, .int .i64 0]) (T := 25) (Later.refl _)
        simp only [World.size_alloc] at F
        exact F
      rintro W ⟨hW, hF⟩
      obtain ⟨p7, p8, p0, p1, p2, p3, p4, p5, p6, _⟩ := Held.s9 hW
      obtain ⟨r0, r1, r2, r3⟩ := Fr.o2 hF
      have z2 := hF.lt
      have z0 := hW.lt w.heap.size 0 (.int .i64 x.k) (by simp)
      have z1 := hW.lt (w.heap.size + 1) 0 (.int .i64 a) (by simp)
      have HW := Lib.hid (Held.is hW)
      go_wp2_with (first | (go_at_call 67; refine (s_IsSegment x _).mono ?_; rintro e w1 ⟨rfl, hb⟩; obtain ⟨H, hcc, hff, hzz⟩ := later_facts hb; clear hb; (try simp at hzz); (try simp only [World.heap_drewN, World.cell?_drewN, World.frozen?_drewN] at hcc hff); have hz0 : w.heap.size < w1.heap.size := (by omega); (try (have hz1 : w.heap.size + 1 < w1.heap.size := (by omega))); (try (have hz2 : w.heap.size + 1 + 1 < w1.heap.size := (by omega))); (try (have hz3 : w.heap.size + 1 + 1 + 1 < w1.heap.size := (by omega))); (try (have hz4 : w.heap.size + 1 + 1 + 1 + 1 < w1.heap.size := (by omega)))) | (go_at_call 68; refine (s_IsEnergy _ _ _).mono ?_; rintro e w1 ⟨rfl, hb⟩; obtain ⟨H, hcc, hff, hzz⟩ := later_facts hb; clear hb; (try simp at hzz); (try simp only [World.heap_drewN, World.cell?_drewN, World.frozen?_drewN] at hcc hff); have hz0 : w.heap.size < w1.heap.size := (by omega); (try (have hz1 : w.heap.size + 1 < w1.heap.size := (by omega))); (try (have hz2 : w.heap.size + 1 + 1 < w1.heap.size := (by omega))); (try (have hz3 : w.heap.size + 1 + 1 + 1 < w1.heap.size := (by omega))); (try (have hz4 : w.heap.size + 1 + 1 + 1 + 1 < w1.heap.size := (by omega)))))
      refine bodyPost_ret (v := .tuple #[.agg #[.int .i64 0, .int .i64 0], .int .i64 1]) (by simp [results, Try.results42, go_sem, *]) rfl ⟨rfl, (by repeat (first | (with_reducible exact Later.refl _) | (with_reducible exact Hid.out (by assumption)) | (with_reducible refine Later.alloc ?_ _) | (with_reducible refine Later.setCell ?_ (by simp; omega) _) | (with_reducible refine Later.setCell ?_ (by simp) _) | (with_reducible refine Later.drewN ?_ _) | (with_reducible refine Later.drew ?_) | (with_reducible refine Later.trans ?_ (Hid.out (by assumption)))))⟩
    · have HS := fun w => s_Work x w h0
      have e1 : dsE x a b = slE x := by unfold dsE; rw [h1]; rfl
      by_cases h : slE x = 0
      · obtain ⟨s1, s2, s3⟩ := slE_ok h
        obtain ⟨u1, u2, u3⟩ := (enB_iff a b).1 h1
        have hw := wk_bd x s1
        have hl := ((sgB_iff x).1 s1).2.1
        have m1 := nn_mul a x.l (by omega) (by omega) hl.1 hl.2
        have m2 := nn_mul b x.l (by omega) (by omega) hl.1 hl.2
        have e2 : dsL x a b = flo (a * x.l) (wkH x) := by unfold dsL; rw [e1, h]; rfl
        have e3 : dsH x a b = cei (b * x.l) (wkL x) := by unfold dsH; rw [e1, h]; rfl
        rw [e1, h, e2, e3]
        clear e1 e2 e3 h s1
        generalize wkL x = p at *
        generalize wkH x = q at *
        obtain ⟨hw1, hw2, hw3⟩ := hw
        obtain ⟨l1, l2⟩ := hl
        obtain ⟨A, hA⟩ : ∃ A, A = a * x.l := ⟨_, rfl⟩
        obtain ⟨B, hB⟩ : ∃ B, B = b * x.l := ⟨_, rfl⟩
        rw [← hA] at m1; rw [← hB] at m2
        have v1 : IntKind.i64.wrap (a * x.l) = A := by rw [← hA]; exact IntWalk.i64_in _ ⟨by omega, by omega⟩
        have v2 : IntKind.i64.wrap (b * x.l) = B := by rw [← hB]; exact IntWalk.i64_in _ ⟨by omega, by omega⟩
        rw [← hA, ← hB]
        have hp : p ≠ 0 := by omega
        have hq : q ≠ 0 := by omega
        have hnl : ¬ p < 1 := by omega
        clear hA hB u1 u2 u3
        go_enter Try.func42, Try.ntmps42
        go_upto_region 1 with (fail)
        refine into (fun W => Held [(w.heap.size + 1, 0, .int .i64 a), (w.heap.size + 1, 1, .int .i64 b), (w.heap.size, 0, .int .i64 x.k), (w.heap.size, 1, .int .i64 x.l), (w.heap.size, 2, .int .i64 x.r), (w.heap.size, 3, .int .i64 x.a), (w.heap.size, 4, .int .i64 x.b), (w.heap.size, 5, .int .i64 x.c), (w.heap.size, 6, .int .i64 x.d)] w W ∧ Fr (w.heap.size + 1 + 1) [.int .i64 0, .int .i64 0] W) ⟨?_, ?_⟩ ?_
        · exact (held_box (held_box (held_start w) w.heap.size [.int .i64 x.k, .int .i64 x.l, .int .i64 x.r, .int .i64 x.a, .int .i64 x.b, .int .i64 x.c, .int .i64 x.d] _ rfl) (w.heap.size + 1) [.int .i64 a, .int .i64 b] _ (by simp)).alloc _
        · have F := fr_alloc (X := (w.alloc (.cells [.int .i64 x.k, .int .i64 x.l, .int .i64 x.r, .int .i64 x.a, .int .i64 x.b, .int .i64 x.c, .int .i64 x.d].toArray 27)).alloc (.cells [Value.int .i64 a, .int .i64 b].toArray 25)) (l := [.int .i64 0, .int .i64 0]) (T := 25) (Later.refl _)
          simp only [World.size_alloc] at F
          exact F
        rintro W ⟨hW, hF⟩
        obtain ⟨p7, p8, p0, p1, p2, p3, p4, p5, p6, _⟩ := Held.s9 hW
        obtain ⟨r0, r1, r2, r3⟩ := Fr.o2 hF
        have z2 := hF.lt
        have z0 := hW.lt w.heap.size 0 (.int .i64 x.k) (by simp)
        have z1 := hW.lt (w.heap.size + 1) 0 (.int .i64 a) (by simp)
        have HW := Lib.hid (Held.is hW)
        go_wp2_with (first | (go_at_call 67; refine (s_IsSegment x _).mono ?_; rintro e w1 ⟨rfl, hb⟩; obtain ⟨H, hcc, hff, hzz⟩ := later_facts hb; clear hb; (try simp at hzz); (try simp only [World.heap_drewN, World.cell?_drewN, World.frozen?_drewN] at hcc hff); have hz0 : w.heap.size < w1.heap.size := (by omega); (try (have hz1 : w.heap.size + 1 < w1.heap.size := (by omega))); (try (have hz2 : w.heap.size + 1 + 1 < w1.heap.size := (by omega))); (try (have hz3 : w.heap.size + 1 + 1 + 1 < w1.heap.size := (by omega))); (try (have hz4 : w.heap.size + 1 + 1 + 1 + 1 < w1.heap.size := (by omega)))) | (go_at_call 68; refine (s_IsEnergy _ _ _).mono ?_; rintro e w1 ⟨rfl, hb⟩; obtain ⟨H, hcc, hff, hzz⟩ := later_facts hb; clear hb; (try simp at hzz); (try simp only [World.heap_drewN, World.cell?_drewN, World.frozen?_drewN] at hcc hff); have hz0 : w.heap.size < w1.heap.size := (by omega); (try (have hz1 : w.heap.size + 1 < w1.heap.size := (by omega))); (try (have hz2 : w.heap.size + 1 + 1 < w1.heap.size := (by omega))); (try (have hz3 : w.heap.size + 1 + 1 + 1 < w1.heap.size := (by omega))); (try (have hz4 : w.heap.size + 1 + 1 + 1 + 1 < w1.heap.size := (by omega)))) | (go_at_call 87; refine (s_Brake x _ s2 _).mono ?_; rintro e w8 ⟨rfl, hb⟩; have H8 := Lib.hid hb; obtain ⟨H, hcc, hff, hzz⟩ := later_facts hb; (try simp only [World.size_alloc] at hzz); clear hb; (try (have hy0 : w.heap.size < w8.heap.size := (by omega))); (try (have hy1 : w.heap.size + 1 < w8.heap.size := (by omega))); (try (have hy2 : w.heap.size + 1 + 1 < w8.heap.size := (by omega))); (try (have hy3 : w7.heap.size < w8.heap.size := (by omega)))) | (go_at_call 86; refine (HS _).mono ?_; rintro e w7 ⟨rfl, hb⟩; have H7 : Hid (Later W w7) := Lib.hid (Later.trans (by repeat (first | (with_reducible exact Later.refl _) | (with_reducible exact Hid.out (by assumption)) | (with_reducible refine Later.alloc ?_ _) | (with_reducible refine Later.setCell ?_ (by simp; omega) _) | (with_reducible refine Later.setCell ?_ (by simp) _) | (with_reducible refine Later.drewN ?_ _) | (with_reducible refine Later.drew ?_) | (with_reducible refine Later.trans ?_ (Hid.out (by assumption))))) hb); obtain ⟨H, hcc, hff, hzz⟩ := later_facts hb; clear hb; have hy0 : w.heap.size < w7.heap.size := (by omega); have hy1 : w.heap.size + 1 < w7.heap.size := (by omega); have hy2 : w.heap.size + 1 + 1 < w7.heap.size := (by omega)))
        have hgz : w.heap.size + 1 + 1 < w7.heap.size := by have := H7.out.size; omega
        have W8 : Held [(w7.heap.size, 0, Value.int .i64 p), (w7.heap.size, 1, Value.int .i64 q), (w.heap.size + 1, 0, Value.int .i64 a), (w.heap.size + 1, 1, Value.int .i64 b), (w.heap.size, 1, Value.int .i64 x.l)] w w8 := by
          have h : Held ((w7.heap.size, 0, .int .i64 p) :: (w7.heap.size, 1, .int .i64 q) :: [(w.heap.size + 1, 0, .int .i64 a), (w.heap.size + 1, 1, .int .i64 b), (w.heap.size, 0, .int .i64 x.k), (w.heap.size, 1, .int .i64 x.l), (w.heap.size, 2, .int .i64 x.r), (w.heap.size, 3, .int .i64 x.a), (w.heap.size, 4, .int .i64 x.b), (w.heap.size, 5, .int .i64 x.c), (w.heap.size, 6, .int .i64 x.d)]) w w8 := (held_box (Held.later hW H7.out) w7.heap.size [.int .i64 p, .int .i64 q] _ rfl).later H8.out
          exact ⟨fun y hy => h.1 y (by simp at hy ⊢; rcases hy with rfl | rfl | rfl | rfl | rfl <;> simp), h.2⟩
        have F := fr_later hF (H7.out.trans (Later.trans ((Later.refl _).alloc _) H8.out))
        refine into (fun W => Held [(w7.heap.size, 0, .int .i64 p), (w7.heap.size, 1, .int .i64 q), (w.heap.size + 1, 0, .int .i64 a), (w.heap.size + 1, 1, .int .i64 b), (w.heap.size, 1, .int .i64 x.l)] w W ∧ Fr (w.heap.size + 1 + 1) [.int .i64 0, .int .i64 0] W) ⟨by repeat (first | exact W8 | refine Held.drew ?_ | refine Held.drewN ?_ _), fr_later F (by repeat (first | exact Later.refl _ | refine Later.drew ?_ | refine Later.drewN ?_ _))⟩ ?_
        clear p0 p1 p2 p3 p4 p5 p6 p7 p8 r0 r1 r2 r3 hcc hff hzz H hW F hF
        rintro W' ⟨hW, F⟩
        obtain ⟨r0, r1, r2, r3⟩ := Fr.o2 F
        have z3 := hW.lt w7.heap.size 0 (.int .i64 p) (by simp)
        have ne1 : ¬ w7.heap.size = w.heap.size + 1 + 1 := by omega
        have ne2 : ¬ w.heap.size + 1 + 1 = w7.heap.size := by omega
        have hls : ∀ y ∈ [(w7.heap.size, 0, Value.int .i64 p), (w7.heap.size, 1, Value.int .i64 q), (w.heap.size + 1, 0, Value.int .i64 a), (w.heap.size + 1, 1, Value.int .i64 b), (w.heap.size, 1, Value.int .i64 x.l)], y.1 ≠ w.heap.size + 1 + 1 := by
          intro y hx; simp at hx; rcases hx with rfl | rfl | rfl | rfl | rfl <;> simp <;> omega
        go_region_held3 (fun w' => w'.cell? ⟨w7.heap.size, 0, none⟩ = some (.int .i64 p) ∧ w'.cell? ⟨w7.heap.size, 1, none⟩ = some (.int .i64 q) ∧ w'.cell? ⟨w.heap.size + 1, 0, none⟩ = some (.int .i64 a) ∧ w'.cell? ⟨w.heap.size + 1, 1, none⟩ = some (.int .i64 b) ∧ w'.cell? ⟨w.heap.size, 1, none⟩ = some (.int .i64 x.l) ∧ Held [(w7.heap.size, 0, .int .i64 p), (w7.heap.size, 1, .int .i64 q), (w.heap.size + 1, 0, .int .i64 a), (w.heap.size + 1, 1, .int .i64 b), (w.heap.size, 1, .int .i64 x.l)] w w') ((refine Held.s5 ?_; (repeat (first | refine Held.drew ?_ | refine Held.drewN ?_ _ | refine Held.setNe ?_ _ _ hls (by simp <;> omega))); refine Held.later hW ?_; repeat (first | exact Later.refl _ | refine Later.drew ?_ | refine Later.drewN ?_ _ | refine Later.alloc ?_ _ | refine Later.trans ?_ (Hid.out (by assumption)))))
          (first | (go_at_call 75; refine (s_FloorB _ _ _ (by omega) (by omega) (by omega) (by omega) hq).mono ?_; rintro e w' ⟨rfl, rfl⟩) | (go_at_call 70; refine (s_CeilB _ _ _ (by omega) (by omega) (by omega) (by omega) hp).mono ?_; rintro e w' ⟨rfl, rfl⟩))
        all_goals
          go_wp2_with fail
          refine bodyPost_ret (v := .tuple #[.agg #[.int .i64 (flo A q), .int .i64 (cei B p)], .int .i64 0]) (by simp [results, Try.results42, go_sem, *]) rfl ⟨rfl, (by repeat (first | exact Held.is hW | refine Later.drew ?_ | refine Later.drewN ?_ _ | refine Later.setCell ?_ (by simp <;> omega) _))⟩
      · have e2 : dsL x a b = 0 := by unfold dsL okV; rw [e1, if_neg h]
        have e3 : dsH x a b = 0 := by unfold dsH okV; rw [e1, if_neg h]
        rw [e1, e2, e3]
        have hs5 : slE x = 5 := by
          unfold slE brE at h ⊢
          rw [if_pos h0] at h ⊢
          cases hb : brk x.k
          · simp [hb]
          · simp [hb] at h ⊢; exact h
        rw [hs5]
        have hlow : brk x.k = true → wkL x < 1 := by
          intro hb
          unfold slE brE at hs5
          rw [if_pos h0, hb] at hs5
          simp at hs5; omega
        clear e1 e2 e3 h hs5
        generalize wkL x = p at *
        generalize wkH x = q at *
        cases s2 : brk x.k
        · clear hlow
          go_enter Try.func42, Try.ntmps42
          go_upto_region 1 with (fail)
          refine into (fun W => Held [(w.heap.size + 1, 0, .int .i64 a), (w.heap.size + 1, 1, .int .i64 b), (w.heap.size, 0, .int .i64 x.k), (w.heap.size, 1, .int .i64 x.l), (w.heap.size, 2, .int .i64 x.r), (w.heap.size, 3, .int .i64 x.a), (w.heap.size, 4, .int .i64 x.b), (w.heap.size, 5, .int .i64 x.c), (w.heap.size, 6, .int .i64 x.d)] w W ∧ Fr (w.heap.size + 1 + 1) [.int .i64 0, .int .i64 0] W) ⟨?_, ?_⟩ ?_
          · exact (held_box (held_box (held_start w) w.heap.size [.int .i64 x.k, .int .i64 x.l, .int .i64 x.r, .int .i64 x.a, .int .i64 x.b, .int .i64 x.c, .int .i64 x.d] _ rfl) (w.heap.size + 1) [.int .i64 a, .int .i64 b] _ (by simp)).alloc _
          · have F := fr_alloc (X := (w.alloc (.cells [.int .i64 x.k, .int .i64 x.l, .int .i64 x.r, .int .i64 x.a, .int .i64 x.b, .int .i64 x.c, .int .i64 x.d].toArray 27)).alloc (.cells [Value.int .i64 a, .int .i64 b].toArray 25)) (l := [.int .i64 0, .int .i64 0]) (T := 25) (Later.refl _)
            simp only [World.size_alloc] at F
            exact F
          rintro W ⟨hW, hF⟩
          obtain ⟨p7, p8, p0, p1, p2, p3, p4, p5, p6, _⟩ := Held.s9 hW
          obtain ⟨r0, r1, r2, r3⟩ := Fr.o2 hF
          have z2 := hF.lt
          have z0 := hW.lt w.heap.size 0 (.int .i64 x.k) (by simp)
          have z1 := hW.lt (w.heap.size + 1) 0 (.int .i64 a) (by simp)
          have HW := Lib.hid (Held.is hW)
          go_wp2_with (first | (go_at_call 67; refine (s_IsSegment x _).mono ?_; rintro e w1 ⟨rfl, hb⟩; obtain ⟨H, hcc, hff, hzz⟩ := later_facts hb; clear hb; (try simp at hzz); (try simp only [World.heap_drewN, World.cell?_drewN, World.frozen?_drewN] at hcc hff); have hz0 : w.heap.size < w1.heap.size := (by omega); (try (have hz1 : w.heap.size + 1 < w1.heap.size := (by omega))); (try (have hz2 : w.heap.size + 1 + 1 < w1.heap.size := (by omega))); (try (have hz3 : w.heap.size + 1 + 1 + 1 < w1.heap.size := (by omega))); (try (have hz4 : w.heap.size + 1 + 1 + 1 + 1 < w1.heap.size := (by omega)))) | (go_at_call 68; refine (s_IsEnergy _ _ _).mono ?_; rintro e w1 ⟨rfl, hb⟩; obtain ⟨H, hcc, hff, hzz⟩ := later_facts hb; clear hb; (try simp at hzz); (try simp only [World.heap_drewN, World.cell?_drewN, World.frozen?_drewN] at hcc hff); have hz0 : w.heap.size < w1.heap.size := (by omega); (try (have hz1 : w.heap.size + 1 < w1.heap.size := (by omega))); (try (have hz2 : w.heap.size + 1 + 1 < w1.heap.size := (by omega))); (try (have hz3 : w.heap.size + 1 + 1 + 1 < w1.heap.size := (by omega))); (try (have hz4 : w.heap.size + 1 + 1 + 1 + 1 < w1.heap.size := (by omega)))) | (go_at_call 87; refine (s_Brake x _ s2 _).mono ?_; rintro e w8 ⟨rfl, hb⟩; have H8 := Lib.hid hb; obtain ⟨H, hcc, hff, hzz⟩ := later_facts hb; (try simp only [World.size_alloc] at hzz); clear hb; (try (have hy0 : w.heap.size < w8.heap.size := (by omega))); (try (have hy1 : w.heap.size + 1 < w8.heap.size := (by omega))); (try (have hy2 : w.heap.size + 1 + 1 < w8.heap.size := (by omega))); (try (have hy3 : w7.heap.size < w8.heap.size := (by omega)))) | (go_at_call 86; refine (HS _).mono ?_; rintro e w1 ⟨rfl, hb⟩; obtain ⟨H, hcc, hff, hzz⟩ := later_facts hb; clear hb; (try simp at hzz); (try simp only [World.heap_drewN, World.cell?_drewN, World.frozen?_drewN] at hcc hff); have hz0 : w.heap.size < w1.heap.size := (by omega); (try (have hz1 : w.heap.size + 1 < w1.heap.size := (by omega))); (try (have hz2 : w.heap.size + 1 + 1 < w1.heap.size := (by omega))); (try (have hz3 : w.heap.size + 1 + 1 + 1 < w1.heap.size := (by omega))); (try (have hz4 : w.heap.size + 1 + 1 + 1 + 1 < w1.heap.size := (by omega)))))
          refine bodyPost_ret (v := .tuple #[.agg #[.int .i64 0, .int .i64 0], .int .i64 5]) (by simp [results, Try.results42, go_sem, *]) rfl ⟨rfl, (by repeat (first | (with_reducible exact Later.refl _) | (with_reducible exact Hid.out (by assumption)) | (with_reducible refine Later.alloc ?_ _) | (with_reducible refine Later.setCell ?_ (by simp; omega) _) | (with_reducible refine Later.setCell ?_ (by simp) _) | (with_reducible refine Later.drewN ?_ _) | (with_reducible refine Later.drew ?_) | (with_reducible refine Later.trans ?_ (Hid.out (by assumption)))))⟩
        · have hlow := hlow s2
          go_enter Try.func42, Try.ntmps42
          go_upto_region 1 with (fail)
          refine into (fun W => Held [(w.heap.size + 1, 0, .int .i64 a), (w.heap.size + 1, 1, .int .i64 b), (w.heap.size, 0, .int .i64 x.k), (w.heap.size, 1, .int .i64 x.l), (w.heap.size, 2, .int .i64 x.r), (w.heap.size, 3, .int .i64 x.a), (w.heap.size, 4, .int .i64 x.b), (w.heap.size, 5, .int .i64 x.c), (w.heap.size, 6, .int .i64 x.d)] w W ∧ Fr (w.heap.size + 1 + 1) [.int .i64 0, .int .i64 0] W) ⟨?_, ?_⟩ ?_
          · exact (held_box (held_box (held_start w) w.heap.size [.int .i64 x.k, .int .i64 x.l, .int .i64 x.r, .int .i64 x.a, .int .i64 x.b, .int .i64 x.c, .int .i64 x.d] _ rfl) (w.heap.size + 1) [.int .i64 a, .int .i64 b] _ (by simp)).alloc _
          · have F := fr_alloc (X := (w.alloc (.cells [.int .i64 x.k, .int .i64 x.l, .int .i64 x.r, .int .i64 x.a, .int .i64 x.b, .int .i64 x.c, .int .i64 x.d].toArray 27)).alloc (.cells [Value.int .i64 a, .int .i64 b].toArray 25)) (l := [.int .i64 0, .int .i64 0]) (T := 25) (Later.refl _)
            simp only [World.size_alloc] at F
            exact F
          rintro W ⟨hW, hF⟩
          obtain ⟨p7, p8, p0, p1, p2, p3, p4, p5, p6, _⟩ := Held.s9 hW
          obtain ⟨r0, r1, r2, r3⟩ := Fr.o2 hF
          have z2 := hF.lt
          have z0 := hW.lt w.heap.size 0 (.int .i64 x.k) (by simp)
          have z1 := hW.lt (w.heap.size + 1) 0 (.int .i64 a) (by simp)
          have HW := Lib.hid (Held.is hW)
          go_wp2_with (first | (go_at_call 67; refine (s_IsSegment x _).mono ?_; rintro e w1 ⟨rfl, hb⟩; obtain ⟨H, hcc, hff, hzz⟩ := later_facts hb; clear hb; (try simp at hzz); (try simp only [World.heap_drewN, World.cell?_drewN, World.frozen?_drewN] at hcc hff); have hz0 : w.heap.size < w1.heap.size := (by omega); (try (have hz1 : w.heap.size + 1 < w1.heap.size := (by omega))); (try (have hz2 : w.heap.size + 1 + 1 < w1.heap.size := (by omega))); (try (have hz3 : w.heap.size + 1 + 1 + 1 < w1.heap.size := (by omega))); (try (have hz4 : w.heap.size + 1 + 1 + 1 + 1 < w1.heap.size := (by omega)))) | (go_at_call 68; refine (s_IsEnergy _ _ _).mono ?_; rintro e w1 ⟨rfl, hb⟩; obtain ⟨H, hcc, hff, hzz⟩ := later_facts hb; clear hb; (try simp at hzz); (try simp only [World.heap_drewN, World.cell?_drewN, World.frozen?_drewN] at hcc hff); have hz0 : w.heap.size < w1.heap.size := (by omega); (try (have hz1 : w.heap.size + 1 < w1.heap.size := (by omega))); (try (have hz2 : w.heap.size + 1 + 1 < w1.heap.size := (by omega))); (try (have hz3 : w.heap.size + 1 + 1 + 1 < w1.heap.size := (by omega))); (try (have hz4 : w.heap.size + 1 + 1 + 1 + 1 < w1.heap.size := (by omega)))) | (go_at_call 87; refine (s_Brake x _ s2 _).mono ?_; rintro e w8 ⟨rfl, hb⟩; have H8 := Lib.hid hb; obtain ⟨H, hcc, hff, hzz⟩ := later_facts hb; (try simp only [World.size_alloc] at hzz); clear hb; (try (have hy0 : w.heap.size < w8.heap.size := (by omega))); (try (have hy1 : w.heap.size + 1 < w8.heap.size := (by omega))); (try (have hy2 : w.heap.size + 1 + 1 < w8.heap.size := (by omega))); (try (have hy3 : w7.heap.size < w8.heap.size := (by omega)))) | (go_at_call 86; refine (HS _).mono ?_; rintro e w1 ⟨rfl, hb⟩; obtain ⟨H, hcc, hff, hzz⟩ := later_facts hb; clear hb; (try simp at hzz); (try simp only [World.heap_drewN, World.cell?_drewN, World.frozen?_drewN] at hcc hff); have hz0 : w.heap.size < w1.heap.size := (by omega); (try (have hz1 : w.heap.size + 1 < w1.heap.size := (by omega))); (try (have hz2 : w.heap.size + 1 + 1 < w1.heap.size := (by omega))); (try (have hz3 : w.heap.size + 1 + 1 + 1 < w1.heap.size := (by omega))); (try (have hz4 : w.heap.size + 1 + 1 + 1 + 1 < w1.heap.size := (by omega)))))
          refine bodyPost_ret (v := .tuple #[.agg #[.int .i64 0, .int .i64 0], .int .i64 5]) (by simp [results, Try.results42, go_sem, *]) rfl ⟨rfl, (by repeat (first | (with_reducible exact Later.refl _) | (with_reducible exact Hid.out (by assumption)) | (with_reducible refine Later.alloc ?_ _) | (with_reducible refine Later.setCell ?_ (by simp; omega) _) | (with_reducible refine Later.setCell ?_ (by simp) _) | (with_reducible refine Later.drewN ?_ _) | (with_reducible refine Later.drew ?_) | (with_reducible refine Later.trans ?_ (Hid.out (by assumption)))))⟩
end Go.Proofs.Ytdhoiiejcmnmbaa
namespace Go.Proofs.Ytdhoiiejcmnmbaa
open Go.RowKit
set_option maxHeartbeats 4000000
set_option linter.unusedVariables false
set_option linter.unusedSimpArgs false
theorem s_StopVerdict (x : Sg) (a b : Int) (w : World) :
    Calls Try.prog 44 #[.agg #[.int .i64 x.k, .int .i64 x.l, .int .i64 x.r, .int .i64 x.a, .int .i64 x.b, .int .i64 x.c, .int .i64 x.d], .agg #[.int .i64 a, .int .i64 b]] w fun e w' => e = .returned (.tuple #[.int .i64 (svV x a b), .int .i64 (svE x a b)]) ∧ Later w w' := by
  cases h0 : sgB x
  · have e1 : Hid (svE x a b = 1) := Lib.hid (by unfold svE brE; rw [h0]; cases enB a b <;> rfl)
    have e2 : Hid (svV x a b = 0) := Lib.hid (by unfold svV; rw [e1.out]; rfl)
    go_enter Try.func44, Try.ntmps44
    go_wp2_with (first | (go_at_call 67; refine (s_IsSegment x _).mono ?_; rintro e w1 ⟨rfl, hb⟩; obtain ⟨H, hcc, hff, hzz⟩ := later_facts hb; clear hb; (try simp at hzz); (try simp only [World.heap_drewN, World.cell?_drewN, World.frozen?_drewN] at hcc hff); have hz0 : w.heap.size < w1.heap.size := (by omega); (try (have hz1 : w.heap.size + 1 < w1.heap.size := (by omega))); (try (have hz2 : w.heap.size + 1 + 1 < w1.heap.size := (by omega))); (try (have hz3 : w.heap.size + 1 + 1 + 1 < w1.heap.size := (by omega))); (try (have hz4 : w.heap.size + 1 + 1 + 1 + 1 < w1.heap.size := (by omega)))) | (go_at_call 68; refine (s_IsEnergy _ _ _).mono ?_; rintro e w1 ⟨rfl, hb⟩; obtain ⟨H, hcc, hff, hzz⟩ := later_facts hb; clear hb; (try simp at hzz); (try simp only [World.heap_drewN, World.cell?_drewN, World.frozen?_drewN] at hcc hff); have hz0 : w.heap.size < w1.heap.size := (by omega); (try (have hz1 : w.heap.size + 1 < w1.heap.size := (by omega))); (try (have hz2 : w.heap.size + 1 + 1 < w1.heap.size := (by omega))); (try (have hz3 : w.heap.size + 1 + 1 + 1 < w1.heap.size := (by omega))); (try (have hz4 : w.heap.size + 1 + 1 + 1 + 1 < w1.heap.size := (by omega)))))
    go_ret2
    exact ⟨ret_2i e2.out.symm e1.out.symm, (by repeat (first | (with_reducible exact Later.refl _) | (with_reducible exact Hid.out (by assumption)) | (with_reducible refine Later.alloc ?_ _) | (with_reducible refine Later.setCell ?_ (by simp; omega) _) | (with_reducible refine Later.setCell ?_ (by simp) _) | (with_reducible refine Later.drewN ?_ _) | (with_reducible refine Later.drew ?_) | (with_reducible refine Later.trans ?_ (Hid.out (by assumption)))))⟩
  · cases h1 : enB a b
    · have e1 : Hid (svE x a b = 1) := Lib.hid (by unfold svE; rw [h1]; rfl)
      have e2 : Hid (svV x a b = 0) := Lib.hid (by unfold svV; rw [e1.out]; rfl)
      go_enter Try.func44, Try.ntmps44
      go_upto_region 1 with (fail)
      refine into (fun W => Held [(w.heap.size + 1, 0, .int .i64 a), (w.heap.size + 1, 1, .int .i64 b), (w.heap.size, 0, .int .i64 x.k), (w.heap.size, 1, .int .i64 x.l), (w.heap.size, 2, .int .i64 x.r), (w.heap.size, 3, .int .i64 x.a), (w.heap.size, 4, .int .i64 x.b), (w.heap.size, 5, .int .i64 x.c), (w.heap.size, 6, .int .i64 x.d)] w W) (by first | exact (held_box (held_box (held_start w) w.heap.size [.int .i64 x.k, .int .i64 x.l, .int .i64 x.r, .int .i64 x.a, .int .i64 x.b, .int .i64 x.c, .int .i64 x.d] _ rfl) (w.heap.size + 1) [.int .i64 a, .int .i64 b] _ (by simp))) ?_
      rintro W hW
      obtain ⟨p7, p8, p0, p1, p2, p3, p4, p5, p6, _⟩ := Held.s9 hW
      have z0 := hW.lt w.heap.size 0 (.int .i64 x.k) (by simp)
      have z1 := hW.lt (w.heap.size + 1) 0 (.int .i64 a) (by simp)
      have HW := Lib.hid (Held.is hW)
      clear hW
      go_wp2_with (first | (go_at_call 67; refine (s_IsSegment x _).mono ?_; rintro e w1 ⟨rfl, hb⟩; obtain ⟨H, hcc, hff, hzz⟩ := later_facts hb; clear hb; (try simp at hzz); (try simp only [World.heap_drewN, World.cell?_drewN, World.frozen?_drewN] at hcc hff); have hz0 : w.heap.size < w1.heap.size := (by omega); (try (have hz1 : w.heap.size + 1 < w1.heap.size := (by omega))); (try (have hz2 : w.heap.size + 1 + 1 < w1.heap.size := (by omega))); (try (have hz3 : w.heap.size + 1 + 1 + 1 < w1.heap.size := (by omega))); (try (have hz4 : w.heap.size + 1 + 1 + 1 + 1 < w1.heap.size := (by omega)))) | (go_at_call 68; refine (s_IsEnergy _ _ _).mono ?_; rintro e w1 ⟨rfl, hb⟩; obtain ⟨H, hcc, hff, hzz⟩ := later_facts hb; clear hb; (try simp at hzz); (try simp only [World.heap_drewN, World.cell?_drewN, World.frozen?_drewN] at hcc hff); have hz0 : w.heap.size < w1.heap.size := (by omega); (try (have hz1 : w.heap.size + 1 < w1.heap.size := (by omega))); (try (have hz2 : w.heap.size + 1 + 1 < w1.heap.size := (by omega))); (try (have hz3 : w.heap.size + 1 + 1 + 1 < w1.heap.size := (by omega))); (try (have hz4 : w.heap.size + 1 + 1 + 1 + 1 < w1.heap.size := (by omega)))))
      go_ret2
      exact ⟨ret_2i e2.out.symm e1.out.symm, (by repeat (first | (with_reducible exact Later.refl _) | (with_reducible exact Hid.out (by assumption)) | (with_reducible refine Later.alloc ?_ _) | (with_reducible refine Later.setCell ?_ (by simp; omega) _) | (with_reducible refine Later.setCell ?_ (by simp) _) | (with_reducible refine Later.drewN ?_ _) | (with_reducible refine Later.drew ?_) | (with_reducible refine Later.trans ?_ (Hid.out (by assumption)))))⟩
    · have HS := fun w => s_Work x w h0
      have e1 : Hid (svE x a b = brE x) := Lib.hid (by unfold svE; rw [h1]; rfl)
      cases s2 : brk x.k
      · have e0 : Hid (brE x = 5) := Lib.hid (by unfold brE; rw [h0, s2]; rfl)
        have e2 : Hid (svV x a b = 0) := Lib.hid (by unfold svV; rw [e1.out, e0.out]; rfl)
        generalize wkL x = p at *
        generalize wkH x = q at *
        go_enter Try.func44, Try.ntmps44
        go_upto_region 1 with (fail)
        refine into (fun W => Held [(w.heap.size + 1, 0, .int .i64 a), (w.heap.size + 1, 1, .int .i64 b), (w.heap.size, 0, .int .i64 x.k), (w.heap.size, 1, .int .i64 x.l), (w.heap.size, 2, .int .i64 x.r), (w.heap.size, 3, .int .i64 x.a), (w.heap.size, 4, .int .i64 x.b), (w.heap.size, 5, .int .i64 x.c), (w.heap.size, 6, .int .i64 x.d)] w W) (by first | exact (held_box (held_box (held_start w) w.heap.size [.int .i64 x.k, .int .i64 x.l, .int .i64 x.r, .int .i64 x.a, .int .i64 x.b, .int .i64 x.c, .int .i64 x.d] _ rfl) (w.heap.size + 1) [.int .i64 a, .int .i64 b] _ (by simp))) ?_
        rintro W hW
        obtain ⟨p7, p8, p0, p1, p2, p3, p4, p5, p6, _⟩ := Held.s9 hW
        have z0 := hW.lt w.heap.size 0 (.int .i64 x.k) (by simp)
        have z1 := hW.lt (w.heap.size + 1) 0 (.int .i64 a) (by simp)
        have HW := Lib.hid (Held.is hW)
        clear hW
        go_wp2_with (first | (go_at_call 67; refine (s_IsSegment x _).mono ?_; rintro e w1 ⟨rfl, hb⟩; obtain ⟨H, hcc, hff, hzz⟩ := later_facts hb; clear hb; (try simp at hzz); (try simp only [World.heap_drewN, World.cell?_drewN, World.frozen?_drewN] at hcc hff); have hz0 : w.heap.size < w1.heap.size := (by omega); (try (have hz1 : w.heap.size + 1 < w1.heap.size := (by omega))); (try (have hz2 : w.heap.size + 1 + 1 < w1.heap.size := (by omega))); (try (have hz3 : w.heap.size + 1 + 1 + 1 < w1.heap.size := (by omega))); (try (have hz4 : w.heap.size + 1 + 1 + 1 + 1 < w1.heap.size := (by omega)))) | (go_at_call 68; refine (s_IsEnergy _ _ _).mono ?_; rintro e w1 ⟨rfl, hb⟩; obtain ⟨H, hcc, hff, hzz⟩ := later_facts hb; clear hb; (try simp at hzz); (try simp only [World.heap_drewN, World.cell?_drewN, World.frozen?_drewN] at hcc hff); have hz0 : w.heap.size < w1.heap.size := (by omega); (try (have hz1 : w.heap.size + 1 < w1.heap.size := (by omega))); (try (have hz2 : w.heap.size + 1 + 1 < w1.heap.size := (by omega))); (try (have hz3 : w.heap.size + 1 + 1 + 1 < w1.heap.size := (by omega))); (try (have hz4 : w.heap.size + 1 + 1 + 1 + 1 < w1.heap.size := (by omega)))) | (go_at_call 86; refine (HS _).mono ?_; rintro e w7 ⟨rfl, hb⟩; obtain ⟨H, hcc, hff, hzz⟩ := later_facts hb; clear hb; (try (have hy0 : w.heap.size < w7.heap.size := (by omega))); (try (have hy1 : w.heap.size + 1 < w7.heap.size := (by omega)))) | (go_at_call 87; refine (s_Brake x _ s2 _).mono ?_; rintro e w8 ⟨rfl, hb⟩; obtain ⟨H, hcc, hff, hzz⟩ := later_facts hb; clear hb; (try simp only [World.size_alloc] at hzz); (try (have hy0 : w.heap.size < w8.heap.size := (by omega))); (try (have hy1 : w.heap.size + 1 < w8.heap.size := (by omega))); (try (have hy3 : w7.heap.size < w8.heap.size := (by omega)))))
        go_ret2
        exact ⟨ret_2i e2.out.symm (by rw [e1.out, e0.out]), (by repeat (first | (with_reducible exact Later.refl _) | (with_reducible exact Hid.out (by assumption)) | (with_reducible refine Later.alloc ?_ _) | (with_reducible refine Later.setCell ?_ (by simp; omega) _) | (with_reducible refine Later.setCell ?_ (by simp) _) | (with_reducible refine Later.drewN ?_ _) | (with_reducible refine Later.drew ?_) | (with_reducible refine Later.trans ?_ (Hid.out (by assumption)))))⟩
      · have e0 : Hid (brE x = 0) := Lib.hid (by unfold brE; rw [h0, s2]; rfl)
        have e2 : Hid (svV x a b = if 1 ≤ wkL x ∧ b ≤ wkL x then 2 else if wkH x < a then 0 else 1) := Lib.hid (by unfold svV; rw [e1.out, e0.out]; rfl)
        generalize wkL x = p at *
        generalize wkH x = q at *
        by_cases c1 : 1 ≤ p
        · by_cases c2 : b ≤ p
          · go_enter Try.func44, Try.ntmps44
            go_upto_region 1 with (fail)
            refine into (fun W => Held [(w.heap.size + 1, 0, .int .i64 a), (w.heap.size + 1, 1, .int .i64 b), (w.heap.size, 0, .int .i64 x.k), (w.heap.size, 1, .int .i64 x.l), (w.heap.size, 2, .int .i64 x.r), (w.heap.size, 3, .int .i64 x.a), (w.heap.size, 4, .int .i64 x.b), (w.heap.size, 5, .int .i64 x.c), (w.heap.size, 6, .int .i64 x.d)] w W) (by first | exact (held_box (held_box (held_start w) w.heap.size [.int .i64 x.k, .int .i64 x.l, .int .i64 x.r, .int .i64 x.a, .int .i64 x.b, .int .i64 x.c, .int .i64 x.d] _ rfl) (w.heap.size + 1) [.int .i64 a, .int .i64 b] _ (by simp))) ?_
            rintro W hW
            obtain ⟨p7, p8, p0, p1, p2, p3, p4, p5, p6, _⟩ := Held.s9 hW
            have z0 := hW.lt w.heap.size 0 (.int .i64 x.k) (by simp)
            have z1 := hW.lt (w.heap.size + 1) 0 (.int .i64 a) (by simp)
            have HW := Lib.hid (Held.is hW)
            clear hW
            go_wp2_with (first | (go_at_call 67; refine (s_IsSegment x _).mono ?_; rintro e w1 ⟨rfl, hb⟩; obtain ⟨H, hcc, hff, hzz⟩ := later_facts hb; clear hb; (try simp at hzz); (try simp only [World.heap_drewN, World.cell?_drewN, World.frozen?_drewN] at hcc hff); have hz0 : w.heap.size < w1.heap.size := (by omega); (try (have hz1 : w.heap.size + 1 < w1.heap.size := (by omega))); (try (have hz2 : w.heap.size + 1 + 1 < w1.heap.size := (by omega))); (try (have hz3 : w.heap.size + 1 + 1 + 1 < w1.heap.size := (by omega))); (try (have hz4 : w.heap.size + 1 + 1 + 1 + 1 < w1.heap.size := (by omega)))) | (go_at_call 68; refine (s_IsEnergy _ _ _).mono ?_; rintro e w1 ⟨rfl, hb⟩; obtain ⟨H, hcc, hff, hzz⟩ := later_facts hb; clear hb; (try simp at hzz); (try simp only [World.heap_drewN, World.cell?_drewN, World.frozen?_drewN] at hcc hff); have hz0 : w.heap.size < w1.heap.size := (by omega); (try (have hz1 : w.heap.size + 1 < w1.heap.size := (by omega))); (try (have hz2 : w.heap.size + 1 + 1 < w1.heap.size := (by omega))); (try (have hz3 : w.heap.size + 1 + 1 + 1 < w1.heap.size := (by omega))); (try (have hz4 : w.heap.size + 1 + 1 + 1 + 1 < w1.heap.size := (by omega)))) | (go_at_call 86; refine (HS _).mono ?_; rintro e w7 ⟨rfl, hb⟩; obtain ⟨H, hcc, hff, hzz⟩ := later_facts hb; clear hb; (try (have hy0 : w.heap.size < w7.heap.size := (by omega))); (try (have hy1 : w.heap.size + 1 < w7.heap.size := (by omega)))) | (go_at_call 87; refine (s_Brake x _ s2 _).mono ?_; rintro e w8 ⟨rfl, hb⟩; obtain ⟨H, hcc, hff, hzz⟩ := later_facts hb; clear hb; (try simp only [World.size_alloc] at hzz); (try (have hy0 : w.heap.size < w8.heap.size := (by omega))); (try (have hy1 : w.heap.size + 1 < w8.heap.size := (by omega))); (try (have hy3 : w7.heap.size < w8.heap.size := (by omega)))))
            go_ret2
            exact ⟨ret_2i (by rw [e2.out, if_pos ⟨by omega, by omega⟩]) (by rw [e1.out, e0.out]), (by repeat (first | (with_reducible exact Later.refl _) | (with_reducible exact Hid.out (by assumption)) | (with_reducible refine Later.alloc ?_ _) | (with_reducible refine Later.setCell ?_ (by simp; omega) _) | (with_reducible refine Later.setCell ?_ (by simp) _) | (with_reducible refine Later.drewN ?_ _) | (with_reducible refine Later.drew ?_) | (with_reducible refine Later.trans ?_ (Hid.out (by assumption)))))⟩
          · by_cases c3 : q < a
            · go_enter Try.func44, Try.ntmps44
              go_upto_region 1 with (fail)
              refine into (fun W => Held [(w.heap.size + 1, 0, .int .i64 a), (w.heap.size + 1, 1, .int .i64 b), (w.heap.size, 0, .int .i64 x.k), (w.heap.size, 1, .int .i64 x.l), (w.heap.size, 2, .int .i64 x.r), (w.heap.size, 3, .int .i64 x.a), (w.heap.size, 4, .int .i64 x.b), (w.heap.size, 5, .int .i64 x.c), (w.heap.size, 6, .int .i64 x.d)] w W) (by first | exact (held_box (held_box (held_start w) w.heap.size [.int .i64 x.k, .int .i64 x.l, .int .i64 x.r, .int .i64 x.a, .int .i64 x.b, .int .i64 x.c, .int .i64 x.d] _ rfl) (w.heap.size + 1) [.int .i64 a, .int .i64 b] _ (by simp))) ?_
              rintro W hW
              obtain ⟨p7, p8, p0, p1, p2, p3, p4, p5, p6, _⟩ := Held.s9 hW
              have z0 := hW.lt w.heap.size 0 (.int .i64 x.k) (by simp)
              have z1 := hW.lt (w.heap.size + 1) 0 (.int .i64 a) (by simp)
              have HW := Lib.hid (Held.is hW)
              clear hW
              go_wp2_with (first | (go_at_call 67; refine (s_IsSegment x _).mono ?_; rintro e w1 ⟨rfl, hb⟩; obtain ⟨H, hcc, hff, hzz⟩ := later_facts hb; clear hb; (try simp at hzz); (try simp only [World.heap_drewN, World.cell?_drewN, World.frozen?_drewN] at hcc hff); have hz0 : w.heap.size < w1.heap.size := (by omega); (try (have hz1 : w.heap.size + 1 < w1.heap.size := (by omega))); (try (have hz2 : w.heap.size + 1 + 1 < w1.heap.size := (by omega))); (try (have hz3 : w.heap.size + 1 + 1 + 1 < w1.heap.size := (by omega))); (try (have hz4 : w.heap.size + 1 + 1 + 1 + 1 < w1.heap.size := (by omega)))) | (go_at_call 68; refine (s_IsEnergy _ _ _).mono ?_; rintro e w1 ⟨rfl, hb⟩; obtain ⟨H, hcc, hff, hzz⟩ := later_facts hb; clear hb; (try simp at hzz); (try simp only [World.heap_drewN, World.cell?_drewN, World.frozen?_drewN] at hcc hff); have hz0 : w.heap.size < w1.heap.size := (by omega); (try (have hz1 : w.heap.size + 1 < w1.heap.size := (by omega))); (try (have hz2 : w.heap.size + 1 + 1 < w1.heap.size := (by omega))); (try (have hz3 : w.heap.size + 1 + 1 + 1 < w1.heap.size := (by omega))); (try (have hz4 : w.heap.size + 1 + 1 + 1 + 1 < w1.heap.size := (by omega)))) | (go_at_call 86; refine (HS _).mono ?_; rintro e w7 ⟨rfl, hb⟩; obtain ⟨H, hcc, hff, hzz⟩ := later_facts hb; clear hb; (try (have hy0 : w.heap.size < w7.heap.size := (by omega))); (try (have hy1 : w.heap.size + 1 < w7.heap.size := (by omega)))) | (go_at_call 87; refine (s_Brake x _ s2 _).mono ?_; rintro e w8 ⟨rfl, hb⟩; obtain ⟨H, hcc, hff, hzz⟩ := later_facts hb; clear hb; (try simp only [World.size_alloc] at hzz); (try (have hy0 : w.heap.size < w8.heap.size := (by omega))); (try (have hy1 : w.heap.size + 1 < w8.heap.size := (by omega))); (try (have hy3 : w7.heap.size < w8.heap.size := (by omega)))))
              go_ret2
              exact ⟨ret_2i (by rw [e2.out, if_neg (by omega), if_pos (by omega)]) (by rw [e1.out, e0.out]), (by repeat (first | (with_reducible exact Later.refl _) | (with_reducible exact Hid.out (by assumption)) | (with_reducible refine Later.alloc ?_ _) | (with_reducible refine Later.setCell ?_ (by simp; omega) _) | (with_reducible refine Later.setCell ?_ (by simp) _) | (with_reducible refine Later.drewN ?_ _) | (with_reducible refine Later.drew ?_) | (with_reducible refine Later.trans ?_ (Hid.out (by assumption)))))⟩
            · go_enter Try.func44, Try.ntmps44
              go_upto_region 1 with (fail)
              refine into (fun W => Held [(w.heap.size + 1, 0, .int .i64 a), (w.heap.size + 1, 1, .int .i64 b), (w.heap.size, 0, .int .i64 x.k), (w.heap.size, 1, .int .i64 x.l), (w.heap.size, 2, .int .i64 x.r), (w.heap.size, 3, .int .i64 x.a), (w.heap.size, 4, .int .i64 x.b), (w.heap.size, 5, .int .i64 x.c), (w.heap.size, 6, .int .i64 x.d)] w W) (by first | exact (held_box (held_box (held_start w) w.heap.size [.int .i64 x.k, .int .i64 x.l, .int .i64 x.r, .int .i64 x.a, .int .i64 x.b, .int .i64 x.c, .int .i64 x.d] _ rfl) (w.heap.size + 1) [.int .i64 a, .int .i64 b] _ (by simp))) ?_
              rintro W hW
              obtain ⟨p7, p8, p0, p1, p2, p3, p4, p5, p6, _⟩ := Held.s9 hW
              have z0 := hW.lt w.heap.size 0 (.int .i64 x.k) (by simp)
              have z1 := hW.lt (w.heap.size + 1) 0 (.int .i64 a) (by simp)
              have HW := Lib.hid (Held.is hW)
              clear hW
              go_wp2_with (first | (go_at_call 67; refine (s_IsSegment x _).mono ?_; rintro e w1 ⟨rfl, hb⟩; obtain ⟨H, hcc, hff, hzz⟩ := later_facts hb; clear hb; (try simp at hzz); (try simp only [World.heap_drewN, World.cell?_drewN, World.frozen?_drewN] at hcc hff); have hz0 : w.heap.size < w1.heap.size := (by omega); (try (have hz1 : w.heap.size + 1 < w1.heap.size := (by omega))); (try (have hz2 : w.heap.size + 1 + 1 < w1.heap.size := (by omega))); (try (have hz3 : w.heap.size + 1 + 1 + 1 < w1.heap.size := (by omega))); (try (have hz4 : w.heap.size + 1 + 1 + 1 + 1 < w1.heap.size := (by omega)))) | (go_at_call 68; refine (s_IsEnergy _ _ _).mono ?_; rintro e w1 ⟨rfl, hb⟩; obtain ⟨H, hcc, hff, hzz⟩ := later_facts hb; clear hb; (try simp at hzz); (try simp only [World.heap_drewN, World.cell?_drewN, World.frozen?_drewN] at hcc hff); have hz0 : w.heap.size < w1.heap.size := (by omega); (try (have hz1 : w.heap.size + 1 < w1.heap.size := (by omega))); (try (have hz2 : w.heap.size + 1 + 1 < w1.heap.size := (by omega))); (try (have hz3 : w.heap.size + 1 + 1 + 1 < w1.heap.size := (by omega))); (try (have hz4 : w.heap.size + 1 + 1 + 1 + 1 < w1.heap.size := (by omega)))) | (go_at_call 86; refine (HS _).mono ?_; rintro e w7 ⟨rfl, hb⟩; obtain ⟨H, hcc, hff, hzz⟩ := later_facts hb; clear hb; (try (have hy0 : w.heap.size < w7.heap.size := (by omega))); (try (have hy1 : w.heap.size + 1 < w7.heap.size := (by omega)))) | (go_at_call 87; refine (s_Brake x _ s2 _).mono ?_; rintro e w8 ⟨rfl, hb⟩; obtain ⟨H, hcc, hff, hzz⟩ := later_facts hb; clear hb; (try simp only [World.size_alloc] at hzz); (try (have hy0 : w.heap.size < w8.heap.size := (by omega))); (try (have hy1 : w.heap.size + 1 < w8.heap.size := (by omega))); (try (have hy3 : w7.heap.size < w8.heap.size := (by omega)))))
              go_ret2
              exact ⟨ret_2i (by rw [e2.out, if_neg (by omega), if_neg (by omega)]) (by rw [e1.out, e0.out]), (by repeat (first | (with_reducible exact Later.refl _) | (with_reducible exact Hid.out (by assumption)) | (with_reducible refine Later.alloc ?_ _) | (with_reducible refine Later.setCell ?_ (by simp; omega) _) | (with_reducible refine Later.setCell ?_ (by simp) _) | (with_reducible refine Later.drewN ?_ _) | (with_reducible refine Later.drew ?_) | (with_reducible refine Later.trans ?_ (Hid.out (by assumption)))))⟩
        · by_cases c3 : q < a
          · go_enter Try.func44, Try.ntmps44
            go_upto_region 1 with (fail)
            refine into (fun W => Held [(w.heap.size + 1, 0, .int .i64 a), (w.heap.size + 1, 1, .int .i64 b), (w.heap.size, 0, .int .i64 x.k), (w.heap.size, 1, .int .i64 x.l), (w.heap.size, 2, .int .i64 x.r), (w.heap.size, 3, .int .i64 x.a), (w.heap.size, 4, .int .i64 x.b), (w.heap.size, 5, .int .i64 x.c), (w.heap.size, 6, .int .i64 x.d)] w W) (by first | exact (held_box (held_box (held_start w) w.heap.size [.int .i64 x.k, .int .i64 x.l, .int .i64 x.r, .int .i64 x.a, .int .i64 x.b, .int .i64 x.c, .int .i64 x.d] _ rfl) (w.heap.size + 1) [.int .i64 a, .int .i64 b] _ (by simp))) ?_
            rintro W hW
            obtain ⟨p7, p8, p0, p1, p2, p3, p4, p5, p6, _⟩ := Held.s9 hW
            have z0 := hW.lt w.heap.size 0 (.int .i64 x.k) (by simp)
            have z1 := hW.lt (w.heap.size + 1) 0 (.int .i64 a) (by simp)
            have HW := Lib.hid (Held.is hW)
            clear hW
            go_wp2_with (first | (go_at_call 67; refine (s_IsSegment x _).mono ?_; rintro e w1 ⟨rfl, hb⟩; obtain ⟨H, hcc, hff, hzz⟩ := later_facts hb; clear hb; (try simp at hzz); (try simp only [World.heap_drewN, World.cell?_drewN, World.frozen?_drewN] at hcc hff); have hz0 : w.heap.size < w1.heap.size := (by omega); (try (have hz1 : w.heap.size + 1 < w1.heap.size := (by omega))); (try (have hz2 : w.heap.size + 1 + 1 < w1.heap.size := (by omega))); (try (have hz3 : w.heap.size + 1 + 1 + 1 < w1.heap.size := (by omega))); (try (have hz4 : w.heap.size + 1 + 1 + 1 + 1 < w1.heap.size := (by omega)))) | (go_at_call 68; refine (s_IsEnergy _ _ _).mono ?_; rintro e w1 ⟨rfl, hb⟩; obtain ⟨H, hcc, hff, hzz⟩ := later_facts hb; clear hb; (try simp at hzz); (try simp only [World.heap_drewN, World.cell?_drewN, World.frozen?_drewN] at hcc hff); have hz0 : w.heap.size < w1.heap.size := (by omega); (try (have hz1 : w.heap.size + 1 < w1.heap.size := (by omega))); (try (have hz2 : w.heap.size + 1 + 1 < w1.heap.size := (by omega))); (try (have hz3 : w.heap.size + 1 + 1 + 1 < w1.heap.size := (by omega))); (try (have hz4 : w.heap.size + 1 + 1 + 1 + 1 < w1.heap.size := (by omega)))) | (go_at_call 86; refine (HS _).mono ?_; rintro e w7 ⟨rfl, hb⟩; obtain ⟨H, hcc, hff, hzz⟩ := later_facts hb; clear hb; (try (have hy0 : w.heap.size < w7.heap.size := (by omega))); (try (have hy1 : w.heap.size + 1 < w7.heap.size := (by omega)))) | (go_at_call 87; refine (s_Brake x _ s2 _).mono ?_; rintro e w8 ⟨rfl, hb⟩; obtain ⟨H, hcc, hff, hzz⟩ := later_facts hb; clear hb; (try simp only [World.size_alloc] at hzz); (try (have hy0 : w.heap.size < w8.heap.size := (by omega))); (try (have hy1 : w.heap.size + 1 < w8.heap.size := (by omega))); (try (have hy3 : w7.heap.size < w8.heap.size := (by omega)))))
            go_ret2
            exact ⟨ret_2i (by rw [e2.out, if_neg (by omega), if_pos (by omega)]) (by rw [e1.out, e0.out]), (by repeat (first | (with_reducible exact Later.refl _) | (with_reducible exact Hid.out (by assumption)) | (with_reducible refine Later.alloc ?_ _) | (with_reducible refine Later.setCell ?_ (by simp; omega) _) | (with_reducible refine Later.setCell ?_ (by simp) _) | (with_reducible refine Later.drewN ?_ _) | (with_reducible refine Later.drew ?_) | (with_reducible refine Later.trans ?_ (Hid.out (by assumption)))))⟩
          · go_enter Try.func44, Try.ntmps44
            go_upto_region 1 with (fail)
            refine into (fun W => Held [(w.heap.size + 1, 0, .int .i64 a), (w.heap.size + 1, 1, .int .i64 b), (w.heap.size, 0, .int .i64 x.k), (w.heap.size, 1, .int .i64 x.l), (w.heap.size, 2, .int .i64 x.r), (w.heap.size, 3, .int .i64 x.a), (w.heap.size, 4, .int .i64 x.b), (w.heap.size, 5, .int .i64 x.c), (w.heap.size, 6, .int .i64 x.d)] w W) (by first | exact (held_box (held_box (held_start w) w.heap.size [.int .i64 x.k, .int .i64 x.l, .int .i64 x.r, .int .i64 x.a, .int .i64 x.b, .int .i64 x.c, .int .i64 x.d] _ rfl) (w.heap.size + 1) [.int .i64 a, .int .i64 b] _ (by simp))) ?_
            rintro W hW
            obtain ⟨p7, p8, p0, p1, p2, p3, p4, p5, p6, _⟩ := Held.s9 hW
            have z0 := hW.lt w.heap.size 0 (.int .i64 x.k) (by simp)
            have z1 := hW.lt (w.heap.size + 1) 0 (.int .i64 a) (by simp)
            have HW := Lib.hid (Held.is hW)
            clear hW
            go_wp2_with (first | (go_at_call 67; refine (s_IsSegment x _).mono ?_; rintro e w1 ⟨rfl, hb⟩; obtain ⟨H, hcc, hff, hzz⟩ := later_facts hb; clear hb; (try simp at hzz); (try simp only [World.heap_drewN, World.cell?_drewN, World.frozen?_drewN] at hcc hff); have hz0 : w.heap.size < w1.heap.size := (by omega); (try (have hz1 : w.heap.size + 1 < w1.heap.size := (by omega))); (try (have hz2 : w.heap.size + 1 + 1 < w1.heap.size := (by omega))); (try (have hz3 : w.heap.size + 1 + 1 + 1 < w1.heap.size := (by omega))); (try (have hz4 : w.heap.size + 1 + 1 + 1 + 1 < w1.heap.size := (by omega)))) | (go_at_call 68; refine (s_IsEnergy _ _ _).mono ?_; rintro e w1 ⟨rfl, hb⟩; obtain ⟨H, hcc, hff, hzz⟩ := later_facts hb; clear hb; (try simp at hzz); (try simp only [World.heap_drewN, World.cell?_drewN, World.frozen?_drewN] at hcc hff); have hz0 : w.heap.size < w1.heap.size := (by omega); (try (have hz1 : w.heap.size + 1 < w1.heap.size := (by omega))); (try (have hz2 : w.heap.size + 1 + 1 < w1.heap.size := (by omega))); (try (have hz3 : w.heap.size + 1 + 1 + 1 < w1.heap.size := (by omega))); (try (have hz4 : w.heap.size + 1 + 1 + 1 + 1 < w1.heap.size := (by omega)))) | (go_at_call 86; refine (HS _).mono ?_; rintro e w7 ⟨rfl, hb⟩; obtain ⟨H, hcc, hff, hzz⟩ := later_facts hb; clear hb; (try (have hy0 : w.heap.size < w7.heap.size := (by omega))); (try (have hy1 : w.heap.size + 1 < w7.heap.size := (by omega)))) | (go_at_call 87; refine (s_Brake x _ s2 _).mono ?_; rintro e w8 ⟨rfl, hb⟩; obtain ⟨H, hcc, hff, hzz⟩ := later_facts hb; clear hb; (try simp only [World.size_alloc] at hzz); (try (have hy0 : w.heap.size < w8.heap.size := (by omega))); (try (have hy1 : w.heap.size + 1 < w8.heap.size := (by omega))); (try (have hy3 : w7.heap.size < w8.heap.size := (by omega)))))
            go_ret2
            exact ⟨ret_2i (by rw [e2.out, if_neg (by omega), if_neg (by omega)]) (by rw [e1.out, e0.out]), (by repeat (first | (with_reducible exact Later.refl _) | (with_reducible exact Hid.out (by assumption)) | (with_reducible refine Later.alloc ?_ _) | (with_reducible refine Later.setCell ?_ (by simp; omega) _) | (with_reducible refine Later.setCell ?_ (by simp) _) | (with_reducible refine Later.drewN ?_ _) | (with_reducible refine Later.drew ?_) | (with_reducible refine Later.trans ?_ (Hid.out (by assumption)))))⟩
end Go.Proofs.Ytdhoiiejcmnmbaa
namespace Go.Proofs.Ytdhoiiejcmnmbaa
open Go.RowKit
set_option maxHeartbeats 4000000
set_option linter.unusedVariables false
set_option linter.unusedSimpArgs false
theorem s_l06Segment (a : Option Addr) (n cap k : Nat) (L : List Sg) (w : World) (hs : Sgs w a n L) (hn : 0 < n) :
    Calls Try.prog 133 #[.agg #[.slice a n cap], .int .i64 (k : Int)] w fun e w' => e = .returned (.agg #[.int .i64 (sx L (k % n)).k, .int .i64 (sx L (k % n)).l, .int .i64 (sx L (k % n)).r, .int .i64 (sx L (k % n)).a, .int .i64 (sx L (k % n)).b, .int .i64 (sx L (k % n)).c, .int .i64 (sx L (k % n)).d]) ∧ Later w w' := by
  obtain ⟨r, hr⟩ : ∃ r, r = k % n := ⟨_, rfl⟩
  have hrn : r < n := by rw [hr]; exact Nat.mod_lt _ hn
  have hmod : (k : Int).tmod (n : Int) = (r : Int) := by rw [Int.tmod_eq_emod_of_nonneg (by omega), hr, Int.natCast_emod]
  rw [← hr]
  have hn0 : ¬ n = 0 := by omega
  have hnm := hs.2.1
  obtain ⟨b, off, rfl, hb, hcc⟩ := hs.at r hrn
  obtain ⟨c0, c1, c2, c3, c4, c5, c6⟩ := hcc
  generalize sx L r = x at c0 c1 c2 c3 c4 c5 c6
  clear hs hr
  go_enter Try.func133, Try.ntmps133
  go_wp2_with fail
  go_region
  all_goals
    go_wp2_with fail
    refine bodyPost_ret (v := .agg #[.int .i64 x.k, .int .i64 x.l, .int .i64 x.r, .int .i64 x.a, .int .i64 x.b, .int .i64 x.c, .int .i64 x.d]) (by simp [results, Try.results133, go_sem, *]) rfl ⟨rfl, (by repeat (first | (with_reducible exact Later.refl _) | (with_reducible exact Hid.out (by assumption)) | (with_reducible refine Later.alloc ?_ _) | (with_reducible refine Later.setCell ?_ (by simp; omega) _) | (with_reducible refine Later.setCell ?_ (by simp) _) | (with_reducible refine Later.drewN ?_ _) | (with_reducible refine Later.drew ?_) | (with_reducible refine Later.trans ?_ (Hid.out (by assumption)))))⟩
end Go.Proofs.Ytdhoiiejcmnmbaa
namespace Go.Proofs.Ytdhoiiejcmnmbaa
open Go.RowKit
set_option maxHeartbeats 4000000
set_option linter.unusedVariables false
set_option linter.unusedSimpArgs false
set_option maxRecDepth 100000 in
theorem s_Needed (a : Option Addr) (n cap : Nat) (L : List Sg) (f c : Nat) (w : World) (hs : Sgs w a n L) (hn : 0 < n) (hf : f ≤ 1000) (hc : c ≤ 24) (hok : okB L L.length = true) :
    Calls Try.prog 121 #[.agg #[.slice a n cap], .int .i64 (f : Int), .int .i64 (c : Int)] w fun e w' => e = .returned (.int .i64 (ndN (runS L f c) c)) ∧ Later w w' := by
  obtain ⟨R, hR⟩ : ∃ R, R = runS L f c := ⟨_, rfl⟩
  have hRl : R.length = c := by rw [hR, runS_len]
  have hokR : okB R R.length = true := by rw [hR]; exact runS_okB L f c hok (by rw [hs.1]; exact hn)
  have HAT : Hid (∀ j, j < c → sx L ((f + j) % n) = sx R j) := Lib.hid (fun j hj => by rw [hR, runS_at L f c j hj, hs.1])
  rw [← hR]
  have HS := Lib.hid hs; have HRL := Lib.hid hRl; have HOK := Lib.hid hokR
  clear hs hR hRl hokR hok
  go_enter Try.func121, Try.ntmps121
  go_wp2_with fail
  go_loopw [7, 8, 9] (fun t s i wr => ∃ j : Nat, j ≤ c ∧ i = .int .i64 ((f + j : Nat) : Int) ∧ t = .int .i64 (ndN R j) ∧ s = .int .i64 (clL R j) ∧ wr.cell? ⟨w.heap.size, 0, none⟩ = some (.slice a n cap) ∧ Later w wr) (fun _ _ i _ => (f + c) - (intOf i).toNat)
  case atStart => exact ⟨0, by omega, rfl, rfl, by rw [clL_0], by simp, (by repeat (first | (with_reducible exact Later.refl _) | (with_reducible exact Hid.out (by assumption)) | (with_reducible refine Later.alloc ?_ _) | (with_reducible refine Later.setCell ?_ (by simp; omega) _) | (with_reducible refine Later.setCell ?_ (by simp) _) | (with_reducible refine Later.drewN ?_ _) | (with_reducible refine Later.drew ?_) | (with_reducible refine Later.trans ?_ (Hid.out (by assumption)))))⟩
  case round =>
    obtain ⟨j, hj, rfl, rfl, rfl, hc1, hlw⟩ := hrel
    have HW := Lib.hid hlw
    have hz1 := sg_cell_lt hc1
    clear hlw
    by_cases hlt : j < c
    · have hseg : sgB (sx R j) = true := okB_at R R.length j (Nat.le_refl _) (by rw [HRL.out]; exact hlt) HOK.out
      obtain ⟨d1, d2, d3⟩ := cl_bd R HOK.out j (by rw [HRL.out]; exact hj)
      obtain ⟨d4, d5, d6⟩ := cl_bd R HOK.out (j + 1) (by rw [HRL.out]; exact hlt)
      obtain ⟨d7, d8⟩ := ndN_bd R HOK.out j (by rw [HRL.out]; exact hj)
      have q1 : clL R j + chL (sx R j) = clL R (j + 1) := by rw [clL_succ R j (by rw [HRL.out]; exact hlt)]
      obtain ⟨x, hx⟩ : ∃ x, x = clL R (j + 1) := ⟨_, rfl⟩
      rw [← hx] at q1 d4
      have hx0 : -300000000000 ≤ x := by omega
      have hx2 : x ≤ 300000000000 := by omega
      have HN : Hid (ndN R (j + 1) = max (ndN R j) (-x)) := Lib.hid (by rw [hx]; exact ndN_succ R j)
      have HX := Lib.hid hx
      have HWR : Hid (IntKind.i64.wrap (clL R j + chL (sx R j)) = x) := Lib.hid (by rw [q1]; exact IntWalk.i64_in _ ⟨by omega, by omega⟩)
      have hfd : ∀ w : World, (Instr.field 25 (.agg #[.int .i64 (chL (sx R j)), .int .i64 (chH (sx R j))]) 0).run Try.prog w = .ok (.int .i64 (chL (sx R j))) w := fun _ => by kernel_rfl
      clear d1 d2 d3 d4 d5 d6 d8 hx
      go_wp2_with fail
      refine (s_l06Segment a n cap (f + j) L _ (HS.out.later (by repeat (first | (with_reducible exact Later.refl _) | (with_reducible exact Hid.out (by assumption)) | (with_reducible refine Later.alloc ?_ _) | (with_reducible refine Later.setCell ?_ (by simp; omega) _) | (with_reducible refine Later.setCell ?_ (by simp) _) | (with_reducible refine Later.drewN ?_ _) | (with_reducible refine Later.drew ?_) | (with_reducible refine Later.trans ?_ (Hid.out (by assumption)))))) hn).mono ?_
      rw [HAT.out j hlt]
      rintro e w2 ⟨rfl, hb2⟩
      have W2 : Hid (Later w w2) := Lib.hid (Later.trans (by repeat (first | (with_reducible exact Later.refl _) | (with_reducible exact Hid.out (by assumption)) | (with_reducible refine Later.alloc ?_ _) | (with_reducible refine Later.setCell ?_ (by simp; omega) _) | (with_reducible refine Later.setCell ?_ (by simp) _) | (with_reducible refine Later.drewN ?_ _) | (with_reducible refine Later.drew ?_) | (with_reducible refine Later.trans ?_ (Hid.out (by assumption))))) hb2)
      have hc2 : w2.cell? ⟨w.heap.size, 0, none⟩ = some (.slice a n cap) := (hb2.cell (p := ⟨w.heap.size, 0, none⟩) hz1).trans hc1
      clear hb2
      go_wp2_with fail
      refine (s_Change (sx R j) _ hseg).mono ?_
      rintro e w3 ⟨rfl, hb3⟩
      have W3 : Hid (Later w w3) := Lib.hid (Later.trans (by repeat (first | (with_reducible exact Later.refl _) | (with_reducible exact Hid.out (by assumption)) | (with_reducible refine Later.alloc ?_ _) | (with_reducible refine Later.setCell ?_ (by simp; omega) _) | (with_reducible refine Later.setCell ?_ (by simp) _) | (with_reducible refine Later.drewN ?_ _) | (with_reducible refine Later.drew ?_) | (with_reducible refine Later.trans ?_ (Hid.out (by assumption))))) hb3)
      have hz2 := sg_cell_lt hc2
      have hc3 : w3.cell? ⟨w.heap.size, 0, none⟩ = some (.slice a n cap) := (hb3.cell (p := ⟨w.heap.size, 0, none⟩) hz2).trans hc2
      clear hb3 hc2 hc1
      have hwr := HWR.out
      go_wp2_with fail
      go_roundw
      case rel =>
        refine ⟨j + 1, by omega, by go_num, ?_, by rw [HX.out], hc3, W3.out⟩
        rw [HN.out]
        congr 1
        split <;> omega
      case measure => simp [intOf]; omega
    · obtain rfl : j = c := by omega
      go_wp2_with fail
      go_ret
      exact ⟨rfl, HW.out⟩
end Go.Proofs.Ytdhoiiejcmnmbaa
namespace Go.Proofs.Ytdhoiiejcmnmbaa
open Go.RowKit
set_option maxHeartbeats 4000000
set_option linter.unusedVariables false
set_option linter.unusedSimpArgs false
/-- what the model tells of a block -/
def enLo (L : List Sg) (F : List Int) (b : Nat) : Int := if slowB L F b = true then loK L F b else 0
def enHi (L : List Sg) (F : List Int) (b : Nat) : Int := if slowB L F b = true then hiK L F b else -1
set_option maxRecDepth 100000 in
theorem s_Entry (a : Option Addr) (n cap : Nat) (L : List Sg) (A : Option Addr) (m capF : Nat) (F : List Int) (b : Nat) (w : World) (hs : Sgs w a n L) (hf : Sl w A m F) (hv : layB L = true) (hk : bkC L F = true) (hb : b < m) :
    Calls Try.prog 96 #[.agg #[.slice a n cap], .slice A m capF, .int .i64 b] w fun e w' => e = .returned (.tuple #[.int .i64 (enLo L F b), .int .i64 (enHi L F b)]) ∧ Later w w' := by
  obtain ⟨f, h, c, y, R, hB⟩ := bl_of hv hk (by rw [hf.1]; exact hb) hs.1
  have HS := Lib.hid hs; have HF := Lib.hid hf; have HB := Lib.hid hB
  have hfh := hB.le; have hhn := hB.lt; have h24 := hB.n24
  have hch : c = h - f := hB.ce
  have HEND := fun w (h1 : Sgs w a n L) (h2 : Sl w A m F) => s_l04End a n cap L A m capF F b w h1 h2 hk hb
  rw [hB.end', show ((h + 1 : Nat) : Int) = (h : Int) + 1 by omega] at HEND
  have HND := fun w (h1 : Sgs w a n L) => s_Needed a n cap L f c w h1 (by omega) (by omega) (by omega) hB.ok
  have eR : runS L f c = R := by rw [hB.Re, hB.fe, hB.cn]; rfl
  rw [eR] at HND
  have hlo : loK L F b = ndN R c := by unfold loK; rw [← hB.Re, ← hB.cn]
  have hcc0 : ((c : Nat) : Int) = (h : Int) - f := by omega
  rw [hcc0] at HND
  have HHI : Hid (enHi L F b = if slowB L F b = true then hiK L F b else -1) := Lib.hid rfl
  have HLO : Hid (enLo L F b = if slowB L F b = true then ndN R c else 0) := Lib.hid (by unfold enLo; rw [hlo])
  obtain ⟨bF, oF, rfl, ck⟩ := hf.at b hb
  have g1 := (blk_bd hk b (by rw [hf.1]; exact hb)).1
  rw [g1, ← hB.fe] at ck
  have hbF := cell_lt ck
  obtain ⟨b0, o0, rfl, hb0, _⟩ := hs.at 0 (by omega)
  clear hs hf hB hlo eR g1 hv hk
  generalize ndN R c = lo at *
  go_enter Try.func96, Try.ntmps96
  go_upto_region 1 with (fail)
  refine into (Held [(w.heap.size, 0, .slice (some ⟨b0, o0, none⟩) n cap), (bF, oF + b, .int .i64 f)] w) (by exact held_box (held_more (held_start w) bF (oF + b) _ ck hbF) w.heap.size [.slice (some ⟨b0, o0, none⟩) n cap] _ rfl) ?_
  intro W hW
  obtain ⟨p0, p1, _⟩ := Held.s2 hW
  have z0 := hW.lt w.heap.size 0 (.slice (some ⟨b0, o0, none⟩) n cap) (by simp)
  have z1 := hW.lt bF (oF + b) (.int .i64 f) (by simp)
  have HW := Lib.hid hW.is
  clear hW ck
  have hw1 : IntKind.i64.wrap ((h : Int) + 1 - 1) = (h : Int) := by rw [show (h : Int) + 1 - 1 = h by omega]; exact IntWalk.i64_in _ ⟨by omega, by omega⟩
  have hw2 : IntKind.i64.wrap (h : Int) = (h : Int) := IntWalk.i64_in _ ⟨by omega, by omega⟩
  have hw0 : ((h : Int) + 1 - 1) = (h : Int) := by omega
  go_cut [8, 9] (fun u v W => u = .int .i64 f ∧ v = .int .i64 h ∧ Held [(w.heap.size, 0, .slice (some ⟨b0, o0, none⟩) n cap)] w W)
  case first =>
    go_region_with (go_at_call 99; refine (HEND _ (HS.out.later (by repeat (first | (with_reducible exact Later.refl _) | (with_reducible exact Hid.out (by assumption)) | (with_reducible refine Later.alloc ?_ _) | (with_reducible refine Later.setCell ?_ (by simp; omega) _) | (with_reducible refine Later.setCell ?_ (by simp) _) | (with_reducible refine Later.drewN ?_ _) | (with_reducible refine Later.drew ?_) | (with_reducible refine Later.trans ?_ (Hid.out (by assumption)))))) (HF.out.later (by repeat (first | (with_reducible exact Later.refl _) | (with_reducible exact Hid.out (by assumption)) | (with_reducible refine Later.alloc ?_ _) | (with_reducible refine Later.setCell ?_ (by simp; omega) _) | (with_reducible refine Later.setCell ?_ (by simp) _) | (with_reducible refine Later.drewN ?_ _) | (with_reducible refine Later.drew ?_) | (with_reducible refine Later.trans ?_ (Hid.out (by assumption))))))).mono ?_; rintro e w1 ⟨rfl, hb⟩; obtain ⟨H, hcc, hff, hzz⟩ := later_facts hb; clear hb; (try simp only [World.heap_drewN, World.cell?_drewN, World.frozen?_drewN, World.size_drew, World.cell?_drew] at hcc hff hzz))
    all_goals
      go_wp2_with fail
      go_meet
      exact ⟨rfl, by first | rfl | rw [hw2], ⟨fun x hx => by simp at hx; subst hx; exact ⟨by show w.heap.size < w1.heap.size; omega, by show w1.cell? ⟨w.heap.size, 0, none⟩ = _; rw [hcc _ _ z0]; exact p0⟩, HW.out.trans (later_undrew H.out)⟩⟩
  case rest =>
    obtain ⟨rfl, rfl, hW⟩ := hcut
    clear p0 p1 z0 z1 HW
    obtain ⟨p0, _⟩ := Held.s1 hW
    have z0 := hW.lt w.heap.size 0 (.slice (some ⟨b0, o0, none⟩) n cap) (by simp)
    have HW := Lib.hid hW.is
    clear hW
    go_wp2_with (first | (go_at_call 121; refine (HND _ (HS.out.later (by repeat (first | (with_reducible exact Later.refl _) | (with_reducible exact Hid.out (by assumption)) | (with_reducible refine Later.alloc ?_ _) | (with_reducible refine Later.setCell ?_ (by simp; omega) _) | (with_reducible refine Later.setCell ?_ (by simp) _) | (with_reducible refine Later.drewN ?_ _) | (with_reducible refine Later.drew ?_) | (with_reducible refine Later.trans ?_ (Hid.out (by assumption))))))).mono ?_; rintro e w2 ⟨rfl, hb⟩; have H2 : Hid (Later w w2) := Lib.hid (Later.trans (by repeat (first | (with_reducible exact Later.refl _) | (with_reducible exact Hid.out (by assumption)) | (with_reducible refine Later.alloc ?_ _) | (with_reducible refine Later.setCell ?_ (by simp; omega) _) | (with_reducible refine Later.setCell ?_ (by simp) _) | (with_reducible refine Later.drewN ?_ _) | (with_reducible refine Later.drew ?_) | (with_reducible refine Later.trans ?_ (Hid.out (by assumption))))) hb); have c2 := (hb.cell (p := ⟨w.heap.size, 0, none⟩) z0).trans p0; clear hb))
    clear hw0 hw1 hw2 p0 z0 HW
    go_loopw [11, 12, 13] (fun hi sm i wr => ∃ j : Nat, j ≤ c ∧ i = .int .i64 ((f + j : Nat) : Int) ∧ hi = .int .i64 (hgK R j) ∧ sm = .int .i64 (clH R j) ∧ wr.cell? ⟨w.heap.size, 0, none⟩ = some (.slice (some ⟨b0, o0, none⟩) n cap) ∧ Later w wr) (fun _ _ i _ => h - (intOf i).toNat)
    case atStart => exact ⟨0, by omega, rfl, rfl, by rw [clH_0], c2, H2.out⟩
    case round =>
      obtain ⟨j, hj, rfl, rfl, rfl, hc1, hlw⟩ := hrel
      have HW := Lib.hid hlw
      have hz1 := sg_cell_lt hc1
      clear c2 H2
      by_cases hlt : j < c
      · have hseg : sgB (sx R j) = true := okB_at R R.length j (Nat.le_refl _) (by rw [HB.out.Rl]; exact hlt) HB.out.Rok
        obtain ⟨d1, d2, d3⟩ := cl_bd R HB.out.Rok j (by rw [HB.out.Rl]; exact hj)
        obtain ⟨d4, d5, d6⟩ := cl_bd R HB.out.Rok (j + 1) (by rw [HB.out.Rl]; exact hlt)
        have d9 := hgK_ge R HB.out.Rok j (by rw [HB.out.Rl]; exact hj)
        have d10 := hgK_le R j
        obtain ⟨Y, hY⟩ : ∃ Y, Y = clH R (j + 1) := ⟨_, rfl⟩
        have q2 : clH R j + chH (sx R j) = Y := by rw [hY, clH_succ R j (by rw [HB.out.Rl]; exact hlt)]
        have HY := Lib.hid hY
        rw [← hY] at d5 d6
        have HG : Hid (hgK R (j + 1) = min (hgK R j) (10000000000 - Y)) := Lib.hid (by rw [hY]; exact hgK_succ R j)
        have HWR : IntKind.i64.wrap (clH R j + chH (sx R j)) = Y := by rw [q2]; exact IntWalk.i64_in _ ⟨by omega, by omega⟩
        have HWR2 : IntKind.i64.wrap (10000000000 - Y) = 10000000000 - Y := IntWalk.i64_in _ ⟨by omega, by omega⟩
        have hfd : ∀ w : World, (Instr.field 25 (.agg #[.int .i64 (chL (sx R j)), .int .i64 (chH (sx R j))]) 1).run Try.prog w = .ok (.int .i64 (chH (sx R j))) w := fun _ => by kernel_rfl
        have HCH := fun w => s_Change (sx R j) w hseg
        obtain ⟨b', o', hbb, hb', hc7⟩ := (HS.out.later hlw).at (f + j) (by omega)
        simp only [Option.some.injEq, Addr.mk.injEq, and_true] at hbb
        obtain ⟨rfl, rfl⟩ := hbb
        obtain ⟨c0, c1, c2, c3, c4, c5, c6⟩ := hc7
        rw [← HB.out.Rat j hlt] at c0 c1 c2 c3 c4 c5 c6
        have hfj : f + j < h := by omega
        have hfn : f + j < n := by omega
        clear d1 d2 d3 d4 d5 d6 d9 d10 hY q2 hlw
        go_wp2_with (go_at_call 62; refine (HCH _).mono ?_; rintro e w3 ⟨rfl, hb⟩; have H3 : Hid (Later w w3) := Lib.hid (HW.out.trans (Later.trans (by repeat (first | (with_reducible exact Later.refl _) | (with_reducible exact Hid.out (by assumption)) | (with_reducible refine Later.alloc ?_ _) | (with_reducible refine Later.setCell ?_ (by simp; omega) _) | (with_reducible refine Later.setCell ?_ (by simp) _) | (with_reducible refine Later.drewN ?_ _) | (with_reducible refine Later.drew ?_) | (with_reducible refine Later.trans ?_ (Hid.out (by assumption))))) hb)); have c3' := (hb.cell (p := ⟨w.heap.size, 0, none⟩) hz1).trans hc1; clear hb)
        all_goals
          go_roundw
          case rel =>
            refine ⟨j + 1, by omega, by go_num, ?_, by rw [HY.out], c3', H3.out⟩
            rw [HG.out]
            congr 1
            first | omega | (split <;> omega)
          case measure => simp [intOf]; omega
      · obtain rfl : c = j := by omega
        obtain ⟨b', o', hbb, hb', hc7⟩ := (HS.out.later hlw).at h hhn
        simp only [Option.some.injEq, Addr.mk.injEq, and_true] at hbb
        obtain ⟨rfl, rfl⟩ := hbb
        obtain ⟨c0, c1, c2, c3, c4, c5, c6⟩ := hc7
        rw [show sx L h = y by rw [HB.out.ye, HB.out.he]; rfl] at c0 c1 c2 c3 c4 c5 c6
        have hnf : ¬ ((f + c : Nat) : Int) < (h : Int) := by omega
        have hw := wk_bd y HB.out.ysg
        have eR : rnK L F b = R := HB.out.Re.symm
        have eC : cnK L F b = c := HB.out.cn.symm
        have eY : hoS L F b = y := HB.out.ye.symm
        have eS : slowB L F b = (!brk y.k || decide (1 ≤ wkL y)) := by unfold slowB; rw [eY]
        have eH : hiK L F b = if brk y.k = true then min (hgK R c) (wkL y - clH R c) else hgK R c := by unfold hiK; rw [eY, eR, eC]
        obtain ⟨d1, d2, d3⟩ := cl_bd R HB.out.Rok c (by rw [HB.out.Rl]; exact hj)
        have dc : c ≤ 24 := by omega
        have hnc : ¬ f + c < h := by omega
        clear hlw hch hcc0 HEND HND
        cases hbk : brk y.k
        · have E1 : Hid (enHi L F b = hgK R c) := Lib.hid (by rw [HHI.out, eS, eH, hbk]; simp)
          have E2 : Hid (enLo L F b = lo) := Lib.hid (by rw [HLO.out, eS, hbk]; simp)
          clear eS eH eY eR eC hw d1 d2 d3
          go_wp2_with (first | (go_at_call 87; refine (s_Brake y _ hbk _).mono ?_; rintro e w3 ⟨rfl, hb⟩; have HW := Lib.hid (HW.out.trans (Later.trans (by repeat (first | (with_reducible exact Later.refl _) | (with_reducible exact Hid.out (by assumption)) | (with_reducible refine Later.alloc ?_ _) | (with_reducible refine Later.setCell ?_ (by simp; omega) _) | (with_reducible refine Later.setCell ?_ (by simp) _) | (with_reducible refine Later.drewN ?_ _) | (with_reducible refine Later.drew ?_) | (with_reducible refine Later.trans ?_ (Hid.out (by assumption))))) hb)); obtain ⟨H, hcc, hff, hzz⟩ := later_facts hb; clear hb; (try simp only [World.heap_drewN, World.cell?_drewN, World.frozen?_drewN] at hcc hff hzz); (try (have hz3 : w.heap.size < w3.heap.size := (by omega))); (try (have hz4 : b0 < w3.heap.size := (by omega)))) | (go_at_call 86; refine (s_Work y _ HB.out.ysg).mono ?_; rintro e w4 ⟨rfl, hb⟩; have HW := Lib.hid (HW.out.trans (Later.trans (by repeat (first | (with_reducible exact Later.refl _) | (with_reducible exact Hid.out (by assumption)) | (with_reducible refine Later.alloc ?_ _) | (with_reducible refine Later.setCell ?_ (by simp; omega) _) | (with_reducible refine Later.setCell ?_ (by simp) _) | (with_reducible refine Later.drewN ?_ _) | (with_reducible refine Later.drew ?_) | (with_reducible refine Later.trans ?_ (Hid.out (by assumption))))) hb)); clear hb))
          go_ret2
          exact ⟨ret_2i E2.out.symm E1.out.symm, (by repeat (first | (with_reducible exact Later.refl _) | (with_reducible exact Hid.out (by assumption)) | (with_reducible refine Later.alloc ?_ _) | (with_reducible refine Later.setCell ?_ (by simp; omega) _) | (with_reducible refine Later.setCell ?_ (by simp) _) | (with_reducible refine Later.drewN ?_ _) | (with_reducible refine Later.drew ?_) | (with_reducible refine Later.trans ?_ (Hid.out (by assumption)))))⟩
        · by_cases hp : 1 ≤ wkL y
          · have E1 : Hid (enHi L F b = min (hgK R c) (wkL y - clH R c)) := Lib.hid (by rw [HHI.out, eS, eH, hbk]; simp [hp])
            have E2 : Hid (enLo L F b = lo) := Lib.hid (by rw [HLO.out, eS, hbk]; simp [hp])
            have hfd : ∀ w : World, (Instr.field 25 (.agg #[.int .i64 (wkL y), .int .i64 (wkH y)]) 0).run Try.prog w = .ok (.int .i64 (wkL y)) w := fun _ => by kernel_rfl
            have hwr : IntKind.i64.wrap (wkL y - clH R c) = wkL y - clH R c := IntWalk.i64_in _ ⟨by omega, by omega⟩
            have hp2 : ¬ wkL y < 1 := by omega
            clear eS eH eY eR eC hw d1 d2 d3
            go_wp2_with (first | (go_at_call 87; refine (s_Brake y _ hbk _).mono ?_; rintro e w3 ⟨rfl, hb⟩; have HW := Lib.hid (HW.out.trans (Later.trans (by repeat (first | (with_reducible exact Later.refl _) | (with_reducible exact Hid.out (by assumption)) | (with_reducible refine Later.alloc ?_ _) | (with_reducible refine Later.setCell ?_ (by simp; omega) _) | (with_reducible refine Later.setCell ?_ (by simp) _) | (with_reducible refine Later.drewN ?_ _) | (with_reducible refine Later.drew ?_) | (with_reducible refine Later.trans ?_ (Hid.out (by assumption))))) hb)); obtain ⟨H, hcc, hff, hzz⟩ := later_facts hb; clear hb; (try simp only [World.heap_drewN, World.cell?_drewN, World.frozen?_drewN] at hcc hff hzz); (try (have hz3 : w.heap.size < w3.heap.size := (by omega))); (try (have hz4 : b0 < w3.heap.size := (by omega)))) | (go_at_call 86; refine (s_Work y _ HB.out.ysg).mono ?_; rintro e w4 ⟨rfl, hb⟩; have HW := Lib.hid (HW.out.trans (Later.trans (by repeat (first | (with_reducible exact Later.refl _) | (with_reducible exact Hid.out (by assumption)) | (with_reducible refine Later.alloc ?_ _) | (with_reducible refine Later.setCell ?_ (by simp; omega) _) | (with_reducible refine Later.setCell ?_ (by simp) _) | (with_reducible refine Later.drewN ?_ _) | (with_reducible refine Later.drew ?_) | (with_reducible refine Later.trans ?_ (Hid.out (by assumption))))) hb)); clear hb))
            all_goals
              go_ret2
              exact ⟨ret_2i E2.out.symm (by rw [E1.out]; first | rfl | omega), (by repeat (first | (with_reducible exact Later.refl _) | (with_reducible exact Hid.out (by assumption)) | (with_reducible refine Later.alloc ?_ _) | (with_reducible refine Later.setCell ?_ (by simp; omega) _) | (with_reducible refine Later.setCell ?_ (by simp) _) | (with_reducible refine Later.drewN ?_ _) | (with_reducible refine Later.drew ?_) | (with_reducible refine Later.trans ?_ (Hid.out (by assumption)))))⟩
          · have E1 : Hid (enHi L F b = -1) := Lib.hid (by rw [HHI.out, eS, hbk]; simp [hp])
            have E2 : Hid (enLo L F b = 0) := Lib.hid (by rw [HLO.out, eS, hbk]; simp [hp])
            have hfd : ∀ w : World, (Instr.field 25 (.agg #[.int .i64 (wkL y), .int .i64 (wkH y)]) 0).run Try.prog w = .ok (.int .i64 (wkL y)) w := fun _ => by kernel_rfl
            have hp2 : wkL y < 1 := by omega
            clear eS eH eY eR eC hw d1 d2 d3
            go_wp2_with (first | (go_at_call 87; refine (s_Brake y _ hbk _).mono ?_; rintro e w3 ⟨rfl, hb⟩; have HW := Lib.hid (HW.out.trans (Later.trans (by repeat (first | (with_reducible exact Later.refl _) | (with_reducible exact Hid.out (by assumption)) | (with_reducible refine Later.alloc ?_ _) | (with_reducible refine Later.setCell ?_ (by simp; omega) _) | (with_reducible refine Later.setCell ?_ (by simp) _) | (with_reducible refine Later.drewN ?_ _) | (with_reducible refine Later.drew ?_) | (with_reducible refine Later.trans ?_ (Hid.out (by assumption))))) hb)); obtain ⟨H, hcc, hff, hzz⟩ := later_facts hb; clear hb; (try simp only [World.heap_drewN, World.cell?_drewN, World.frozen?_drewN] at hcc hff hzz); (try (have hz3 : w.heap.size < w3.heap.size := (by omega))); (try (have hz4 : b0 < w3.heap.size := (by omega)))) | (go_at_call 86; refine (s_Work y _ HB.out.ysg).mono ?_; rintro e w4 ⟨rfl, hb⟩; have HW := Lib.hid (HW.out.trans (Later.trans (by repeat (first | (with_reducible exact Later.refl _) | (with_reducible exact Hid.out (by assumption)) | (with_reducible refine Later.alloc ?_ _) | (with_reducible refine Later.setCell ?_ (by simp; omega) _) | (with_reducible refine Later.setCell ?_ (by simp) _) | (with_reducible refine Later.drewN ?_ _) | (with_reducible refine Later.drew ?_) | (with_reducible refine Later.trans ?_ (Hid.out (by assumption))))) hb)); clear hb))
            go_ret2
            exact ⟨ret_2i E2.out.symm E1.out.symm, (by repeat (first | (with_reducible exact Later.refl _) | (with_reducible exact Hid.out (by assumption)) | (with_reducible refine Later.alloc ?_ _) | (with_reducible refine Later.setCell ?_ (by simp; omega) _) | (with_reducible refine Later.setCell ?_ (by simp) _) | (with_reducible refine Later.drewN ?_ _) | (with_reducible refine Later.drew ?_) | (with_reducible refine Later.trans ?_ (Hid.out (by assumption)))))⟩
end Go.Proofs.Ytdhoiiejcmnmbaa
