/- The draw of a traffic and a report (gen/gen_ilf.py). -/
import Derived.Test.YtpeebgkgccacbaaIlE
namespace Go.Proofs.Ytpeebgkgccacbaa
open Go.RowKit
set_option maxHeartbeats 4000000
set_option maxRecDepth 100000
set_option linter.unusedVariables false
set_option linter.unusedSimpArgs false
def DrawnPM (w : World) (e : Ending) (w' : World) : Prop :=
  ∃ (Bt : Int) (v v1 v2 : Value) (l l1 l2 : List Int), e = .returned (.tuple #[.agg #[.int .i64 Bt, v], .agg #[v1, v2]]) ∧ InR Bt ∧ Own w' w.heap.size v l ∧ Own w' w.heap.size v1 l1 ∧ Own w' w.heap.size v2 l2 ∧ Later w w'
set_option maxRecDepth 100000 in
theorem s_DrawPermittedMoves (a : Option Addr) (len cap : Nat) (w : World) (hs : Bytes w a len) :
    Calls Try.prog 11 #[.slice a len cap] w (DrawnPM w) := by
  have HS := Lib.hid hs
  clear hs
  go_enter Try.func11, Try.ntmps11
  go_wp2_with fail
  refine (s_From a len cap _ (HS.out.later (show Later w ((w.alloc (.cells #[.int .i64 0, .slice none 0 0] 32)).alloc (.cells #[.slice none 0 0, .slice none 0 0] 26)) from ((Later.refl _).alloc _).alloc _))).mono ?_
  rintro e w1 ⟨rfl, src, lt, bel⟩
  simp only [World.size_alloc] at src lt bel ⊢
  have S1 := Lib.hid src
  have bel' : Later ((w.alloc (.cells #[.int .i64 0, .slice none 0 0] 32)).alloc (.cells #[.slice none 0 0, .slice none 0 0] 26)) w1 := by rw [Later]; simpa only [World.size_alloc] using bel
  have c0 : w1.cell? ⟨w.heap.size, 0, none⟩ = some (.int .i64 0) := by rw [bel'.cell (p := ⟨w.heap.size, 0, none⟩) (by first | (simp; done) | (simp; omega))]; simp
  have f0 : w1.frozen? ⟨w.heap.size, 0, none⟩ = false := by rw [Below.frozen (p := ⟨w.heap.size, 0, none⟩) bel' (by first | (simp; done) | (simp; omega))]; simp
  have c1 : w1.cell? ⟨w.heap.size, 1, none⟩ = some (.slice none 0 0) := by rw [bel'.cell (p := ⟨w.heap.size, 1, none⟩) (by first | (simp; done) | (simp; omega))]; simp
  have f1 : w1.frozen? ⟨w.heap.size, 1, none⟩ = false := by rw [Below.frozen (p := ⟨w.heap.size, 1, none⟩) bel' (by first | (simp; done) | (simp; omega))]; simp
  have c2 : w1.cell? ⟨w.heap.size + 1, 0, none⟩ = some (.slice none 0 0) := by rw [bel'.cell (p := ⟨w.heap.size + 1, 0, none⟩) (by first | (simp; done) | (simp; omega))]; simp
  have f2 : w1.frozen? ⟨w.heap.size + 1, 0, none⟩ = false := by rw [Below.frozen (p := ⟨w.heap.size + 1, 0, none⟩) bel' (by first | (simp; done) | (simp; omega))]; simp
  have c3 : w1.cell? ⟨w.heap.size + 1, 1, none⟩ = some (.slice none 0 0) := by rw [bel'.cell (p := ⟨w.heap.size + 1, 1, none⟩) (by first | (simp; done) | (simp; omega))]; simp
  have f3 : w1.frozen? ⟨w.heap.size + 1, 1, none⟩ = false := by rw [Below.frozen (p := ⟨w.heap.size + 1, 1, none⟩) bel' (by first | (simp; done) | (simp; omega))]; simp
  have B1 : Hid (Later w w1) := Lib.hid ((((Later.refl w).alloc _).alloc _).trans bel')
  have KR : Hid (∀ W, w1.grownBy W (some (w.heap.size + 1 + 1)) → W.cell? ⟨w.heap.size, 0, none⟩ = some (.int .i64 0) ∧ W.frozen? ⟨w.heap.size, 0, none⟩ = false ∧ W.cell? ⟨w.heap.size, 1, none⟩ = some (.slice none 0 0) ∧ W.frozen? ⟨w.heap.size, 1, none⟩ = false ∧ W.cell? ⟨w.heap.size + 1, 0, none⟩ = some (.slice none 0 0) ∧ W.frozen? ⟨w.heap.size + 1, 0, none⟩ = false ∧ W.cell? ⟨w.heap.size + 1, 1, none⟩ = some (.slice none 0 0) ∧ W.frozen? ⟨w.heap.size + 1, 1, none⟩ = false) := Lib.hid (fun W gr => ⟨gr.cell c0 (by first | (simp; done) | (simp; omega)), (by rw [World.frozen?_of_block (w := w1) (gr.block (w.heap.size) (by omega) (by first | (simp; done) | (simp; omega)))]; exact f0), gr.cell c1 (by first | (simp; done) | (simp; omega)), (by rw [World.frozen?_of_block (w := w1) (gr.block (w.heap.size) (by omega) (by first | (simp; done) | (simp; omega)))]; exact f1), gr.cell c2 (by first | (simp; done) | (simp; omega)), (by rw [World.frozen?_of_block (w := w1) (gr.block (w.heap.size + 1) (by omega) (by first | (simp; done) | (simp; omega)))]; exact f2), gr.cell c3 (by first | (simp; done) | (simp; omega)), (by rw [World.frozen?_of_block (w := w1) (gr.block (w.heap.size + 1) (by omega) (by first | (simp; done) | (simp; omega)))]; exact f3)⟩)
  have KL : Hid (∀ W, w1.grownBy W (some (w.heap.size + 1 + 1)) → Later w W) := Lib.hid (fun W gr => Below.grown B1.out gr B1.out.size (fun k e => by cases e; omega))
  clear src bel bel' c0 c1 c2 c3 f0 f1 f2 f3
  go_wp2_with fail
  refine (s_l10Draw (w.heap.size + 1 + 1) a len cap _ S1.out).mono ?_
  rintro e w2 ⟨Bt, v, l, rfl, hb, ho, h5, src, gr⟩
  obtain ⟨a2, cc2, rfl, _, _⟩ := ho.sl
  obtain ⟨m2, hm2⟩ : ∃ m, l.length = m := ⟨_, rfl⟩
  rw [hm2] at ho
  have HM := Lib.hid hm2
  have HB := Lib.hid hb
  have T2 := Lib.hid (((St.begin S1.out).call src gr).box2 (.int .i64 Bt) (.slice a2 m2 cc2) 32)
  have O2 := Lib.hid (ho.alloc (.cells #[.int .i64 Bt, .slice a2 m2 cc2] 32))
  have hz2 := gr.size
  have hw1 : w.heap.size + 1 + 1 < w1.heap.size := by omega
  rw [hm2]
  clear ho gr src hb S1 h5 hm2
  go_wp2_with fail
  refine (s_IsTraffic Bt a2 m2 cc2 l _ (own_slM O2.out)).mono ?_
  rintro e w3 ⟨rfl, hl⟩
  have T3 := Lib.hid (T2.out.later hl)
  have O3 := Lib.hid (tf_lat O2.out hl)
  clear hl T2 O2
  obtain ⟨d0, d1, d2, d3⟩ := St.s2 T3.out
  cases hv : tfB Bt l
  · have HV := Lib.hid hv
    clear hv
    go_wp2_with fail
    obtain ⟨x0, x1, x2, x3, x4, x5, x6, x7⟩ := KR.out _ T3.out.grown
    go_wp2_with fail
    go_region_with (go_at_call 21; refine (s_l11DrawReport (w.heap.size + 1 + 1) a len cap Bt HB.out _ (show St [(w2.heap.size, 0, .int .i64 Bt), (w2.heap.size, 1, .slice a2 m2 cc2)] (w.heap.size + 1 + 1) a len cap w1 _ from (by repeat (first | (with_reducible exact Hid.out (by assumption)) | (with_reducible refine St.alloc ?_ _) | (with_reducible refine St.drewN ?_ _) | (with_reducible refine St.drew ?_) | (with_reducible refine St.later ?_ (Hid.out (by assumption)))))).src).mono ?_; rintro e w8 ⟨v1, v2, l1, l2, rfl, ho1, ho2, src, gr⟩; have T8 := Lib.hid ((show St [(w2.heap.size, 0, .int .i64 Bt), (w2.heap.size, 1, .slice a2 m2 cc2)] (w.heap.size + 1 + 1) a len cap w1 _ from (by repeat (first | (with_reducible exact Hid.out (by assumption)) | (with_reducible refine St.alloc ?_ _) | (with_reducible refine St.drewN ?_ _) | (with_reducible refine St.drew ?_) | (with_reducible refine St.later ?_ (Hid.out (by assumption)))))).call src gr); have O8 := Lib.hid ((tf_lat O3.out (show Later w3 _ from (by repeat (first | (with_reducible exact Later.refl _) | (with_reducible exact Hid.out (by assumption)) | (with_reducible refine Later.alloc ?_ _) | (with_reducible refine Later.setCell ?_ (by simp; omega) _) | (with_reducible refine Later.setCell ?_ (by simp) _) | (with_reducible refine Later.drewN ?_ _) | (with_reducible refine Later.drew ?_) | (with_reducible refine Later.trans ?_ (Hid.out (by assumption))))))).kept gr (by intro k hk; cases hk; omega)); have hw8 := T3.out.le; obtain ⟨aA, cA, eA, _, _⟩ := ho1.sl; obtain ⟨aB, cB, eB, _, _⟩ := ho2.sl; have OA := Lib.hid (tf_mono (b2 := w.heap.size + 1 + 1) ho1 (by first | omega | (simp; omega))); have OB := Lib.hid (tf_mono (b2 := w.heap.size + 1 + 1) ho2 (by first | omega | (simp; omega))); generalize l1.length = mA at eA; generalize l2.length = mB at eB; subst eA; subst eB; clear ho1 ho2 src gr d0 d1 d2 d3 x0 x1 x2 x3 x4 x5 x6 x7; obtain ⟨x0, x1, x2, x3, x4, x5, x6, x7⟩ := KR.out _ T8.out.grown; obtain ⟨d0, d1, d2, d3⟩ := St.s2 T8.out)
    all_goals
      go_wp2_with fail
      exact bodyPost_ret (v := .tuple #[.agg #[.int .i64 Bt, .slice a2 m2 cc2], .agg #[.slice aA mA cA, .slice aB mB cB]]) (by simp [results, Try.results11, go_sem, *]) rfl ⟨Bt, _, _, _, l, l1, l2, rfl, HB.out, tf_mono (own_res (own_res O8.out (by omega)) (by omega)) (by omega), tf_mono (own_res (own_res OA.out (by omega)) (by omega)) (by omega), tf_mono (own_res (own_res OB.out (by omega)) (by omega)) (by omega), put_res (by omega) (put_res (by omega) (KL.out _ T8.out.grown))⟩
  · have HV := Lib.hid hv
    clear hv
    go_wp2_with fail
    refine (s_Next (w.heap.size + 1 + 1) a len cap 2 _ T3.out.src (by omega) (by omega)).mono ?_
    rintro e w4 ⟨r, rfl, r0, r1, r2, src, gr⟩
    have T4 := Lib.hid (T3.out.call src gr)
    have O4 := Lib.hid (O3.out.kept gr (by intro k hk; cases hk; omega))
    clear gr src r1 r2 T3 O3 d0 d1 d2 d3
    obtain ⟨d0, d1, d2, d3⟩ := St.s2 T4.out
    by_cases hr : r = 0
    · subst hr
      go_wp2_with fail
      refine (s_l11DrawFaults (w.heap.size + 1 + 1) a len cap Bt HB.out _ T4.out.src).mono ?_
      rintro e w5 ⟨vF, nF, lF, rfl, hof, src, gr⟩
      have T5 := Lib.hid (T4.out.call src gr)
      have O5 := Lib.hid (O4.out.kept gr (by intro k hk; cases hk; omega))
      obtain ⟨aF, cF, eF, _, hwd, _⟩ := OwnW.wd hof
      subst eF
      have WF5 := Lib.hid hwd
      clear gr src T4 O4 d0 d1 d2 d3 hof hwd r0
      obtain ⟨d0, d1, d2, d3⟩ := St.s2 T5.out
      go_wp2_with fail
      refine (s_AreFaults Bt HB.out aF nF cF lF _ WF5.out).mono ?_
      rintro e w6 ⟨rfl, hl⟩
      have T6 := Lib.hid (T5.out.later hl)
      have O6 := Lib.hid (tf_lat O5.out hl)
      have WF6 := Lib.hid (WF5.out.later hl)
      clear hl T5 O5 WF5 d0 d1 d2 d3
      obtain ⟨d0, d1, d2, d3⟩ := St.s2 T6.out
      cases hk : ikA Bt nF lF
      · clear hk
        obtain ⟨x0, x1, x2, x3, x4, x5, x6, x7⟩ := KR.out _ T6.out.grown
        go_wp2_with fail
        go_region_with (go_at_call 21; refine (s_l11DrawReport (w.heap.size + 1 + 1) a len cap Bt HB.out _ (show St [(w2.heap.size, 0, .int .i64 Bt), (w2.heap.size, 1, .slice a2 m2 cc2)] (w.heap.size + 1 + 1) a len cap w1 _ from (by repeat (first | (with_reducible exact Hid.out (by assumption)) | (with_reducible refine St.alloc ?_ _) | (with_reducible refine St.drewN ?_ _) | (with_reducible refine St.drew ?_) | (with_reducible refine St.later ?_ (Hid.out (by assumption)))))).src).mono ?_; rintro e w8 ⟨v1, v2, l1, l2, rfl, ho1, ho2, src, gr⟩; have T8 := Lib.hid ((show St [(w2.heap.size, 0, .int .i64 Bt), (w2.heap.size, 1, .slice a2 m2 cc2)] (w.heap.size + 1 + 1) a len cap w1 _ from (by repeat (first | (with_reducible exact Hid.out (by assumption)) | (with_reducible refine St.alloc ?_ _) | (with_reducible refine St.drewN ?_ _) | (with_reducible refine St.drew ?_) | (with_reducible refine St.later ?_ (Hid.out (by assumption)))))).call src gr); have O8 := Lib.hid ((tf_lat O6.out (show Later w6 _ from (by repeat (first | (with_reducible exact Later.refl _) | (with_reducible exact Hid.out (by assumption)) | (with_reducible refine Later.alloc ?_ _) | (with_reducible refine Later.setCell ?_ (by simp; omega) _) | (with_reducible refine Later.setCell ?_ (by simp) _) | (with_reducible refine Later.drewN ?_ _) | (with_reducible refine Later.drew ?_) | (with_reducible refine Later.trans ?_ (Hid.out (by assumption))))))).kept gr (by intro k hk; cases hk; omega)); have hw8 := T6.out.le; obtain ⟨aA, cA, eA, _, _⟩ := ho1.sl; obtain ⟨aB, cB, eB, _, _⟩ := ho2.sl; have OA := Lib.hid (tf_mono (b2 := w.heap.size + 1 + 1) ho1 (by first | omega | (simp; omega))); have OB := Lib.hid (tf_mono (b2 := w.heap.size + 1 + 1) ho2 (by first | omega | (simp; omega))); generalize l1.length = mA at eA; generalize l2.length = mB at eB; subst eA; subst eB; clear ho1 ho2 src gr d0 d1 d2 d3 x0 x1 x2 x3 x4 x5 x6 x7; obtain ⟨x0, x1, x2, x3, x4, x5, x6, x7⟩ := KR.out _ T8.out.grown; obtain ⟨d0, d1, d2, d3⟩ := St.s2 T8.out)
        all_goals
          go_wp2_with fail
          exact bodyPost_ret (v := .tuple #[.agg #[.int .i64 Bt, .slice a2 m2 cc2], .agg #[.slice aA mA cA, .slice aB mB cB]]) (by simp [results, Try.results11, go_sem, *]) rfl ⟨Bt, _, _, _, l, l1, l2, rfl, HB.out, tf_mono (own_res (own_res O8.out (by omega)) (by omega)) (by omega), tf_mono (own_res (own_res OA.out (by omega)) (by omega)) (by omega), tf_mono (own_res (own_res OB.out (by omega)) (by omega)) (by omega), put_res (by omega) (put_res (by omega) (KL.out _ T8.out.grown))⟩
      · have HK := Lib.hid hk
        clear hk
        obtain ⟨x0, x1, x2, x3, x4, x5, x6, x7⟩ := KR.out _ T6.out.grown
        go_wp2_with fail
        go_region_with (go_at_call 30; refine (s_l11Report Bt a2 m2 cc2 l aF nF cF lF _ (own_slM (tf_lat O6.out (show Later w6 _ from (by repeat (first | (with_reducible exact Later.refl _) | (with_reducible exact Hid.out (by assumption)) | (with_reducible refine Later.alloc ?_ _) | (with_reducible refine Later.setCell ?_ (by simp; omega) _) | (with_reducible refine Later.setCell ?_ (by simp) _) | (with_reducible refine Later.drewN ?_ _) | (with_reducible refine Later.drew ?_) | (with_reducible refine Later.trans ?_ (Hid.out (by assumption)))))))) (WF6.out.later (show Later w6 _ from (by repeat (first | (with_reducible exact Later.refl _) | (with_reducible exact Hid.out (by assumption)) | (with_reducible refine Later.alloc ?_ _) | (with_reducible refine Later.setCell ?_ (by simp; omega) _) | (with_reducible refine Later.setCell ?_ (by simp) _) | (with_reducible refine Later.drewN ?_ _) | (with_reducible refine Later.drew ?_) | (with_reducible refine Later.trans ?_ (Hid.out (by assumption))))))) HV.out HK.out).mono ?_; rintro e w8 ⟨v1, v2, l1, l2, rfl, ho1, ho2, hl⟩; have T8 := Lib.hid ((show St [(w2.heap.size, 0, .int .i64 Bt), (w2.heap.size, 1, .slice a2 m2 cc2)] (w.heap.size + 1 + 1) a len cap w1 _ from (by repeat (first | (with_reducible exact Hid.out (by assumption)) | (with_reducible refine St.alloc ?_ _) | (with_reducible refine St.drewN ?_ _) | (with_reducible refine St.drew ?_) | (with_reducible refine St.later ?_ (Hid.out (by assumption)))))).later hl); have O8 := Lib.hid (tf_lat (tf_lat O6.out (show Later w6 _ from (by repeat (first | (with_reducible exact Later.refl _) | (with_reducible exact Hid.out (by assumption)) | (with_reducible refine Later.alloc ?_ _) | (with_reducible refine Later.setCell ?_ (by simp; omega) _) | (with_reducible refine Later.setCell ?_ (by simp) _) | (with_reducible refine Later.drewN ?_ _) | (with_reducible refine Later.drew ?_) | (with_reducible refine Later.trans ?_ (Hid.out (by assumption))))))) hl); have hw8 := T6.out.le; obtain ⟨aA, cA, eA, _, _⟩ := ho1.sl; obtain ⟨aB, cB, eB, _, _⟩ := ho2.sl; have OA := Lib.hid (tf_mono (b2 := w.heap.size + 1 + 1) ho1 (by first | omega | (simp; omega))); have OB := Lib.hid (tf_mono (b2 := w.heap.size + 1 + 1) ho2 (by first | omega | (simp; omega))); generalize l1.length = mA at eA; generalize l2.length = mB at eB; subst eA; subst eB; clear ho1 ho2 hl d0 d1 d2 d3 x0 x1 x2 x3 x4 x5 x6 x7; obtain ⟨x0, x1, x2, x3, x4, x5, x6, x7⟩ := KR.out _ T8.out.grown; obtain ⟨d0, d1, d2, d3⟩ := St.s2 T8.out)
        all_goals
          go_wp2_with fail
          exact bodyPost_ret (v := .tuple #[.agg #[.int .i64 Bt, .slice a2 m2 cc2], .agg #[.slice aA mA cA, .slice aB mB cB]]) (by simp [results, Try.results11, go_sem, *]) rfl ⟨Bt, _, _, _, l, l1, l2, rfl, HB.out, tf_mono (own_res (own_res O8.out (by omega)) (by omega)) (by omega), tf_mono (own_res (own_res OA.out (by omega)) (by omega)) (by omega), tf_mono (own_res (own_res OB.out (by omega)) (by omega)) (by omega), put_res (by omega) (put_res (by omega) (KL.out _ T8.out.grown))⟩
    · have e0 : (r == 0) = false := by simpa using hr
      clear hr r0
      obtain ⟨x0, x1, x2, x3, x4, x5, x6, x7⟩ := KR.out _ T4.out.grown
      go_wp2_with fail
      go_region_with (go_at_call 21; refine (s_l11DrawReport (w.heap.size + 1 + 1) a len cap Bt HB.out _ (show St [(w2.heap.size, 0, .int .i64 Bt), (w2.heap.size, 1, .slice a2 m2 cc2)] (w.heap.size + 1 + 1) a len cap w1 _ from (by repeat (first | (with_reducible exact Hid.out (by assumption)) | (with_reducible refine St.alloc ?_ _) | (with_reducible refine St.drewN ?_ _) | (with_reducible refine St.drew ?_) | (with_reducible refine St.later ?_ (Hid.out (by assumption)))))).src).mono ?_; rintro e w8 ⟨v1, v2, l1, l2, rfl, ho1, ho2, src, gr⟩; have T8 := Lib.hid ((show St [(w2.heap.size, 0, .int .i64 Bt), (w2.heap.size, 1, .slice a2 m2 cc2)] (w.heap.size + 1 + 1) a len cap w1 _ from (by repeat (first | (with_reducible exact Hid.out (by assumption)) | (with_reducible refine St.alloc ?_ _) | (with_reducible refine St.drewN ?_ _) | (with_reducible refine St.drew ?_) | (with_reducible refine St.later ?_ (Hid.out (by assumption)))))).call src gr); have O8 := Lib.hid ((tf_lat O4.out (show Later w4 _ from (by repeat (first | (with_reducible exact Later.refl _) | (with_reducible exact Hid.out (by assumption)) | (with_reducible refine Later.alloc ?_ _) | (with_reducible refine Later.setCell ?_ (by simp; omega) _) | (with_reducible refine Later.setCell ?_ (by simp) _) | (with_reducible refine Later.drewN ?_ _) | (with_reducible refine Later.drew ?_) | (with_reducible refine Later.trans ?_ (Hid.out (by assumption))))))).kept gr (by intro k hk; cases hk; omega)); have hw8 := T4.out.le; obtain ⟨aA, cA, eA, _, _⟩ := ho1.sl; obtain ⟨aB, cB, eB, _, _⟩ := ho2.sl; have OA := Lib.hid (tf_mono (b2 := w.heap.size + 1 + 1) ho1 (by first | omega | (simp; omega))); have OB := Lib.hid (tf_mono (b2 := w.heap.size + 1 + 1) ho2 (by first | omega | (simp; omega))); generalize l1.length = mA at eA; generalize l2.length = mB at eB; subst eA; subst eB; clear ho1 ho2 src gr d0 d1 d2 d3 x0 x1 x2 x3 x4 x5 x6 x7; obtain ⟨x0, x1, x2, x3, x4, x5, x6, x7⟩ := KR.out _ T8.out.grown; obtain ⟨d0, d1, d2, d3⟩ := St.s2 T8.out)
      all_goals
        go_wp2_with fail
        exact bodyPost_ret (v := .tuple #[.agg #[.int .i64 Bt, .slice a2 m2 cc2], .agg #[.slice aA mA cA, .slice aB mB cB]]) (by simp [results, Try.results11, go_sem, *]) rfl ⟨Bt, _, _, _, l, l1, l2, rfl, HB.out, tf_mono (own_res (own_res O8.out (by omega)) (by omega)) (by omega), tf_mono (own_res (own_res OA.out (by omega)) (by omega)) (by omega), tf_mono (own_res (own_res OB.out (by omega)) (by omega)) (by omega), put_res (by omega) (put_res (by omega) (KL.out _ T8.out.grown))⟩
end Go.Proofs.Ytpeebgkgccacbaa
