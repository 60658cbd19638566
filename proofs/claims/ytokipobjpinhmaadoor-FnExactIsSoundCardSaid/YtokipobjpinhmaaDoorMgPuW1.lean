/- Expression lists, of the model: how many values are there at the same time. | Programs that are written, of the program and of the model. | The laws' helpers on programs: equality. | Programs that are written: IsWritten, of the program and of the model. | Programs that are written: IsWritten of the model. | LineOf, of the program and of the model. | Names of a program: declared, assigned, read, used: the program's methods. | The model's lists of names: looked up, twice, all, readable. | The six rules, ProgramFault and IsSound, of the program. | brokenRule, ProgramFault, soundError and IsSound, of the program. | ProgramFault, soundError and IsSound, of the program. -/
import Derived.Test.YtokipobjpinhmaaDoorPsS
import Derived.Test.YtokipobjpinhmaaDoorOwn
import Derived.Test.YtokipobjpinhmaaDoorPsH
import Derived.Test.YtokipobjpinhmaaDoorPsy
import Derived.Test.YtokipobjpinhmaaDoorPsWa
import Derived.Test.YtokipobjpinhmaaDoorPuT
import Derived.Test.YtokipobjpinhmaaDoorPuC
namespace Go.Proofs.YtokipobjpinhmaaDoor
open Go.RowKit Go.Shelf
set_option maxHeartbeats 4000000
set_option maxRecDepth 100000
set_option linter.unusedVariables false
set_option linter.unusedSimpArgs false
/-- the heights behind the first k terms, one by one -/
def hgL (L : List Trm) (k : Nat) : List Int := (List.range k).map fun j => (hAt L (j + 1) : Int)
theorem hgL_len (L : List Trm) (k : Nat) : (hgL L k).length = k := by simp [hgL]
theorem hgL_succ (L : List Trm) (k : Nat) : hgL L (k + 1) = hgL L k ++ [(hAt L (k + 1) : Int)] := by
  unfold hgL; rw [List.range_succ, List.map_append]; rfl
theorem hgL_gx (L : List Trm) (n j : Nat) (h : j < n) : gx (hgL L n) j = (hAt L (j + 1) : Int) := by
  rw [gx_of _ _ (by rw [hgL_len]; exact h)]; simp [hgL]
theorem ownK_lat {w w' : World} {base : Nat} {v : Value} {l : List Int} (h : Own w base v l) (k : Later w w') : Own w' base v l :=
  h.kept (row := none) ⟨k.os, k.tape, k.output, k.size, fun i hi _ => k.block i hi⟩ (fun _ e => by cases e)
theorem okR_kndS (L : List Trm) (k : Nat) (h : trmB (rkx L k) (rsx L k) (rnx L k) = true) : 1 ≤ rkx L k ∧ rkx L k ≤ 12 := by
  simp [trmB, kndT] at h; omega
/-- what l13Heights tells: whether the terms are an expression list, and if so the heights -/
def HgC (w : World) (n : Nat) (L : List Trm) (e : Ending) (w' : World) : Prop :=
  ∃ (a : Option Addr) (m cap : Nat), e = .returned (.tuple #[.slice a m cap, .bool (exB L)]) ∧ Later w w' ∧ (exB L = true → m = n ∧ Sl w' a n (hgL L n))
theorem s_Heights (a : Option Addr) (n cap : Nat) (L : List Trm) (w : World) (hs : Trs w a n L) (hn2 : n ≤ 1000000000) :
    Calls Tryd.prog 122 #[.slice a n cap] w (HgC w n L) := by
  have HS := Lib.hid hs
  have HL := Lib.hid hs.1
  have hn := hs.2.1
  clear hs
  go_enter Tryd.func122, Tryd.ntmps122
  go_wp2_with fail
  have hon := own_new w w.heap.size (Nat.le_refl _)
  have hln : Later w (w.alloc (.cells #[] 2)) := (Later.refl _).alloc _
  generalize w.alloc (.cells #[] 2) = w1 at hon hln ⊢
  generalize Value.slice (some ⟨w.heap.size, 0, none⟩) 0 0 = v1 at hon ⊢
  have HO := Lib.hid hon
  have HN := Lib.hid hln
  clear hon hln
  go_loopw [4, 5, 6] (fun v h i wr => ∃ k : Nat, k ≤ n ∧ i = .int .i64 k ∧ h = .int .i64 (hAt L k : Nat) ∧ Own wr w.heap.size v (hgL L k) ∧ Later w wr ∧ Hid (∀ j, j < k → okR L j = true)) (fun _ _ i _ => n - (intOf i).toNat)
  case atStart => exact ⟨0, by omega, rfl, rfl, HO.out, HN.out, Lib.hid (by intro j h; omega)⟩
  case round =>
    obtain ⟨k, hk, rfl, rfl, ho, hb, HI⟩ := hrel
    have B3 := Lib.hid hb
    have O3 := Lib.hid ho
    clear ho HO HN
    by_cases hlt : k < n
    · obtain ⟨b, off, rfl, c0, c1, c2⟩ := (HS.out.later hb).2.2.1 k hlt
      obtain ⟨r1, r2, r3⟩ := HS.out.rng k hlt
      have IT := Lib.hid (fun W => s_Term (rkx L k) (rsx L k) (rnx L k) W r1 r2 r3)
      have TK := Lib.hid (fun W => s_Takes (rkx L k) W)
      have HOK : Hid (okR L k = (trmB (rkx L k) (rsx L k) (rnx L k) && decide (tkK (rkx L k) ≤ hAt L k))) := Lib.hid rfl
      have HH : Hid (hAt L (k + 1) = hAt L k + 1 - tkK (rkx L k)) := Lib.hid rfl
      have HG := Lib.hid (hgL_succ L k)
      have hll := hgL_len L k
      have hh := hAt_le L k
      obtain ⟨x, hx⟩ : ∃ x, x = rkx L k := ⟨_, rfl⟩
      obtain ⟨y, hy⟩ : ∃ y, y = tx (rsx L k) := ⟨_, rfl⟩
      obtain ⟨z, hz⟩ : ∃ x, x = rnx L k := ⟨_, rfl⟩
      obtain ⟨t, ht⟩ : ∃ t, t = trmB (rkx L k) (rsx L k) (rnx L k) := ⟨_, rfl⟩
      obtain ⟨h, hhe⟩ : ∃ h, h = hAt L k := ⟨_, rfl⟩
      obtain ⟨v0, hv⟩ : ∃ v, v = tkK (rkx L k) := ⟨_, rfl⟩
      rw [← ht] at IT HOK
      rw [← hhe] at HOK HH hh ⊢
      rw [← hv] at HOK HH TK
      have hv2 : v0 ≤ 2 := by rw [hv]; exact tkK_le _
      rw [← hx] at c0 IT TK hv; rw [← hy] at c1 IT; rw [← hz] at c2 IT
      clear hx hy hz ht hhe hb hv
      cases t
      · have HB : Hid (exB L = false) := Lib.hid (exB_bad L k (by rw [HL.out]; exact hlt) (by rw [HOK.out]; rfl))
        go_wp2_with (go_at_call 136; refine (IT.out _).mono ?_; rintro e w2 ⟨rfl, hb⟩; have H2 := Lib.hid hb; clear hb)
        all_goals
          refine bodyPost_ret (v := .tuple #[.slice none 0 0, .bool false]) (by simp [results, Tryd.results122, go_sem, *]) rfl ⟨none, 0, 0, by rw [HB.out], (by repeat (first | (with_reducible exact Later.refl _) | (with_reducible exact Hid.out (by assumption)) | (with_reducible refine Later.alloc ?_ _) | (with_reducible refine Later.setCell ?_ (by simp; omega) _) | (with_reducible refine Later.setCell ?_ (by simp) _) | (with_reducible refine Later.drewN ?_ _) | (with_reducible refine Later.drew ?_) | (with_reducible refine Later.trans ?_ (Hid.out (by assumption))))), by rw [HB.out]; intro hf; cases hf⟩
      · by_cases hvh : v0 ≤ h
        · have HB : Hid (okR L k = true) := Lib.hid (by rw [HOK.out, decide_eq_true hvh]; rfl)
          obtain ⟨h', hh'⟩ : ∃ q, q = h + 1 - v0 := ⟨_, rfl⟩
          rw [← hh'] at HH
          have e1 : IntKind.i64.wrap ((h : Int) - (v0 : Int)) = (h : Int) - (v0 : Int) := IntWalk.i64_in _ (by omega)
          have e2 : IntKind.i64.wrap ((h : Int) - (v0 : Int) + 1) = ((h' : Nat) : Int) := by rw [show (h : Int) - (v0 : Int) + 1 = ((h' : Nat) : Int) by omega]; exact IntWalk.i64_in _ (by omega)
          have hlt2 : ¬ h < v0 := by omega
          have HR : Hid (InR ((h' : Nat) : Int)) := Lib.hid ⟨by omega, by omega⟩
          have KL : Hid (∀ W', Later wr W' → W'.cell? ⟨b, off + k * 3, none⟩ = some (.int .i64 x)) := Lib.hid (fun W' q => by rw [q.cell (p := ⟨b, off + k * 3, none⟩) (cell_lt c0)]; exact c0)
          have RL : Hid (Later wr wr) := Lib.hid (Later.refl _)
          clear hh'
          go_wp2_with (first | (go_at_call 136; refine (IT.out _).mono ?_; rintro e w2 ⟨rfl, hb⟩; have c0 := KL.out _ hb; have O4 := Lib.hid (ownK_lat O3.out hb); have H2 := Lib.hid (Later.trans B3.out hb); clear hb) | (go_at_call 133; refine (TK.out _).mono ?_; rintro e w' ⟨rfl, rfl⟩) | (at_builtin; go_must (refine app1 rfl _ _ rfl w.heap.size _ _ _ _ _ O4.out rfl rfl HR.out (by omega) H2.out.size ?_; intro v' w5 ho hg; have O5 := Lib.hid ho; have H5 : Hid (Later w w5) := Lib.hid (Below.grown H2.out hg H2.out.size (fun q e => (O4.out.lt q e).1)); clear ho hg)))
          all_goals
            go_roundw
            case rel =>
              refine ⟨k + 1, by omega, by go_num, by rw [HH.out], by rw [HG.out, HH.out]; exact O5.out, H5.out, Lib.hid ?_⟩
              intro q hq
              rcases Nat.lt_or_ge q k with h1 | h1
              · exact HI.out q h1
              · obtain rfl : q = k := by omega
                exact HB.out
            case measure => simp [intOf]; omega
        · have HB : Hid (exB L = false) := Lib.hid (exB_bad L k (by rw [HL.out]; exact hlt) (by rw [HOK.out, decide_eq_false hvh]; rfl))
          have hlt2 : h < v0 := by omega
          have KL : Hid (∀ W', Later wr W' → W'.cell? ⟨b, off + k * 3, none⟩ = some (.int .i64 x)) := Lib.hid (fun W' q => by rw [q.cell (p := ⟨b, off + k * 3, none⟩) (cell_lt c0)]; exact c0)
          go_wp2_with (first | (go_at_call 136; refine (IT.out _).mono ?_; rintro e w2 ⟨rfl, hb⟩; have c0 := KL.out _ hb; have H2 := Lib.hid hb; clear hb) | (go_at_call 133; refine (TK.out _).mono ?_; rintro e w' ⟨rfl, rfl⟩))
          all_goals
            refine bodyPost_ret (v := .tuple #[.slice none 0 0, .bool false]) (by simp [results, Tryd.results122, go_sem, *]) rfl ⟨none, 0, 0, by rw [HB.out], (by repeat (first | (with_reducible exact Later.refl _) | (with_reducible exact Hid.out (by assumption)) | (with_reducible refine Later.alloc ?_ _) | (with_reducible refine Later.setCell ?_ (by simp; omega) _) | (with_reducible refine Later.setCell ?_ (by simp) _) | (with_reducible refine Later.drewN ?_ _) | (with_reducible refine Later.drew ?_) | (with_reducible refine Later.trans ?_ (Hid.out (by assumption))))), by rw [HB.out]; intro hf; cases hf⟩
    · obtain rfl : k = n := by omega
      have HA := Lib.hid HI.out
      obtain ⟨a', c', hv, hsl, _⟩ := O3.out.sl
      rw [hgL_len] at hv hsl
      subst hv
      have HSL := Lib.hid hsl
      clear hb hsl
      have hh := hAt_le L k
      have HX : Hid (exB L = (decide (hAt L k = 1) && decide (k ≤ 40))) := Lib.hid (by
        unfold exB
        rw [alR_all L (by rw [HL.out]; exact HI.out), HL.out, Bool.and_true, Bool.and_comm])
      obtain ⟨h, hhe⟩ : ∃ h, h = hAt L k := ⟨_, rfl⟩
      rw [← hhe] at hh HX ⊢
      clear hhe
      by_cases h1 : h = 1
      · subst h1
        go_wp2_with fail
        all_goals
          refine bodyPost_ret (v := .tuple #[.slice a' k c', .bool (exB L)]) (by rw [HX.out]; simp [results, Tryd.results122, go_sem, *] <;> omega) rfl ⟨a', k, c', rfl, B3.out, fun _ => ⟨rfl, HSL.out⟩⟩
      · have e1 : ((h : Int) == 1) = false := by simp; omega
        have HX2 : Hid (exB L = false) := Lib.hid (by rw [HX.out, decide_eq_false h1]; rfl)
        go_wp2_with fail
        all_goals
          refine bodyPost_ret (v := .tuple #[.slice a' k c', .bool false]) (by simp [results, Tryd.results122, go_sem, *]) rfl ⟨a', k, c', by rw [HX2.out], B3.out, by rw [HX2.out]; intro hf; cases hf⟩
theorem s_IsExpression (a : Option Addr) (n cap : Nat) (L : List Trm) (w : World) (hs : Trs w a n L) (hn2 : n ≤ 1000000000) :
    Calls Tryd.prog 97 #[.slice a n cap] w fun e w' => e = .returned (.bool (exB L)) ∧ Later w w' := by
  have IH := Lib.hid (s_Heights a n cap L w hs hn2)
  clear hs
  go_enter Tryd.func97, Tryd.ntmps97
  go_wp2_with (go_at_call 122; refine IH.out.mono ?_; rintro e w1 ⟨a', m', c', rfl, hb, hx⟩; have H1 := Lib.hid hb; clear hb hx)
  go_ret
  exact ⟨rfl, H1.out⟩
end Go.Proofs.YtokipobjpinhmaaDoor
namespace Go.Proofs.YtokipobjpinhmaaDoor
open Go.RowKit Go.Shelf
set_option maxHeartbeats 8000000
set_option maxRecDepth 100000
set_option linter.unusedVariables false
set_option linter.unusedSimpArgs false
theorem i_areNames (a : Option Addr) (n cap : Nat) (W : List (List UInt8)) (w : World) (hs : Sts w a n W) :
    Calls Tryd.prog 88 #[.slice a n cap] w fun e w' => e = .returned (.bool (nmsB W)) ∧ Later w w' := by
  have HS := Lib.hid hs
  have HL := Lib.hid hs.1
  have hn := hs.2.1
  clear hs
  go_enter Tryd.func88, Tryd.ntmps88
  go_wp2_with fail
  go_loopw [7] (fun i wr => ∃ k : Nat, k ≤ n ∧ i = .int .i64 k ∧ Later w wr ∧ Hid (∀ j, j < k → nmB (wx W j) = true)) (fun i _ => n - (intOf i).toNat)
  case atStart => exact ⟨0, by omega, rfl, Later.refl _, Lib.hid (by intro j h; omega)⟩
  case round =>
    obtain ⟨k, hk, rfl, hb, HI⟩ := hrel
    have B3 := Lib.hid hb
    by_cases hlt : k < n
    · obtain ⟨b, off, rfl, c0⟩ := (HS.out.later hb).at k hlt
      have hle := HS.out.len k hlt
      have IN : Hid (∀ W', Calls Tryd.prog 78 #[.string (tx (wx W k))] W' fun e w' => e = .returned (.bool (nmB (wx W k))) ∧ Later W' w') := Lib.hid (fun W' => i_isName (tx (wx W k)) W' hle)
      obtain ⟨y, hy⟩ : ∃ y, y = tx (wx W k) := ⟨_, rfl⟩
      rw [← hy] at c0 IN
      clear hy hb hle
      cases ht : nmB (wx W k)
      · have HB : Hid (nmsB W = false) := Lib.hid (by unfold nmsB; rw [allN_bad W k (by rw [HL.out]; exact hlt) ht]; rfl)
        rw [ht] at IN
        clear ht
        go_wp2_with (go_at_call 78; refine (IN.out _).mono ?_; rintro e w1 ⟨rfl, hb⟩; have H1 := Lib.hid hb; clear hb)
        go_ret
        exact ⟨by rw [HB.out]; rfl, (by repeat (first | (with_reducible exact Later.refl _) | (with_reducible exact Hid.out (by assumption)) | (with_reducible refine Later.alloc ?_ _) | (with_reducible refine Later.setCell ?_ (by simp; omega) _) | (with_reducible refine Later.setCell ?_ (by simp) _) | (with_reducible refine Later.drewN ?_ _) | (with_reducible refine Later.drew ?_) | (with_reducible refine Later.trans ?_ (Hid.out (by assumption)))))⟩
      · have HT := Lib.hid ht
        rw [ht] at IN
        clear ht
        go_wp2_with (go_at_call 78; refine (IN.out _).mono ?_; rintro e w1 ⟨rfl, hb⟩; have H1 := Lib.hid hb; clear hb)
        go_roundw
        case rel =>
          refine ⟨k + 1, by omega, by go_num, (by repeat (first | (with_reducible exact Later.refl _) | (with_reducible exact Hid.out (by assumption)) | (with_reducible refine Later.alloc ?_ _) | (with_reducible refine Later.setCell ?_ (by simp; omega) _) | (with_reducible refine Later.setCell ?_ (by simp) _) | (with_reducible refine Later.drewN ?_ _) | (with_reducible refine Later.drew ?_) | (with_reducible refine Later.trans ?_ (Hid.out (by assumption))))), Lib.hid ?_⟩
          intro q hq
          rcases Nat.lt_or_ge q k with h1 | h1
          · exact HI.out q h1
          · obtain rfl : q = k := by omega
            exact HT.out
        case measure => simp [intOf]; omega
    · obtain rfl : k = n := by omega
      have HF : Hid (nmsB W = decide (k ≤ 20)) := Lib.hid (by unfold nmsB; rw [allN_all W (by rw [HL.out]; exact HI.out), HL.out]; rfl)
      clear hb
      by_cases h20 : k ≤ 20
      · rw [decide_eq_true h20] at HF
        go_wp2_with fail
        all_goals
          go_ret
          exact ⟨by rw [HF.out]; first | rfl | exact ret_b (by simp; omega), B3.out⟩
      · rw [decide_eq_false h20] at HF
        go_wp2_with fail
        all_goals
          go_ret
          exact ⟨by rw [HF.out]; first | rfl | exact ret_b (by simp; omega), B3.out⟩
theorem i_areLines (a : Option Addr) (n cap : Nat) (M : List Lne) (w : World) (hs : Lns w a n M) (ho : Ops w) :
    Calls Tryd.prog 89 #[.slice a n cap] w fun e w' => e = .returned (.bool (lnsB M)) ∧ Later w w' := by
  have HS := Lib.hid hs
  have HL := Lib.hid hs.1
  have HO := Lib.hid ho
  have hn := hs.2.1
  clear hs ho
  go_enter Tryd.func89, Tryd.ntmps89
  go_wp2_with fail
  go_loopw [7] (fun i wr => ∃ k : Nat, k ≤ n ∧ i = .int .i64 k ∧ Later w wr ∧ Hid (∀ j, j < k → lnOk M j = true)) (fun i _ => n - (intOf i).toNat)
  case atStart => exact ⟨0, by omega, rfl, Later.refl _, Lib.hid (by intro j h; omega)⟩
  case round =>
    obtain ⟨k, hk, rfl, hb, HI⟩ := hrel
    have B3 := Lib.hid hb
    by_cases hlt : k < n
    · obtain ⟨b, off, ta, tc, rfl, c0, c1, c2⟩ := (HS.out.later hb).2.2.1 k hlt
      have hle := (HS.out.rng k hlt).1
      have HT2 := Lib.hid c2
      have O3 := Lib.hid (HO.out.later hb)
      have IN : Hid (∀ W', Calls Tryd.prog 78 #[.string (tx (ltx M k))] W' fun e w' => e = .returned (.bool (nmB (ltx M k))) ∧ Later W' w') := Lib.hid (fun W' => i_isName (tx (ltx M k)) W' hle)
      have IE := Lib.hid (fun W' h1 h2 => i_IsExpression ta (lrx M k).length tc (lrx M k) W' h1 h2)
      have HK : Hid (lnOk M k = (nmB (ltx M k) && exB (lrx M k))) := Lib.hid rfl
      obtain ⟨y, hy⟩ : ∃ y, y = tx (ltx M k) := ⟨_, rfl⟩
      obtain ⟨q, hq⟩ : ∃ y, y = (lrx M k).length := ⟨_, rfl⟩
      obtain ⟨t1, ht1⟩ : ∃ b, b = nmB (ltx M k) := ⟨_, rfl⟩
      obtain ⟨t2, ht2⟩ : ∃ b, b = exB (lrx M k) := ⟨_, rfl⟩
      rw [← hy] at c0 IN; rw [← hq] at c1 IE HT2
      rw [← ht1] at IN HK; rw [← ht2] at IE HK
      clear hy hq ht1 ht2 hb hle c2
      cases t1
      · have HB : Hid (lnsB M = false) := Lib.hid (by unfold lnsB; rw [allL_bad M k (by rw [HL.out]; exact hlt) (by rw [HK.out]; rfl)]; rfl)
        go_wp2_with (go_at_call 78; refine (IN.out _).mono ?_; rintro e w1 ⟨rfl, hb⟩; obtain ⟨H1, hcc, hff, hzz⟩ := later_facts hb; clear hb; (try simp at hzz))
        all_goals
          go_ret
          exact ⟨by rw [HB.out]; rfl, (by repeat (first | (with_reducible exact Later.refl _) | (with_reducible exact Hid.out (by assumption)) | (with_reducible refine Later.alloc ?_ _) | (with_reducible refine Later.setCell ?_ (by simp; omega) _) | (with_reducible refine Later.setCell ?_ (by simp) _) | (with_reducible refine Later.drewN ?_ _) | (with_reducible refine Later.drew ?_) | (with_reducible refine Later.trans ?_ (Hid.out (by assumption)))))⟩
      · cases t2
        · have HB : Hid (lnsB M = false) := Lib.hid (by unfold lnsB; rw [allL_bad M k (by rw [HL.out]; exact hlt) (by rw [HK.out]; rfl)]; rfl)
          go_wp2_with (first | (go_at_call 78; refine (IN.out _).mono ?_; rintro e w1 ⟨rfl, hb⟩; obtain ⟨H1, hcc, hff, hzz⟩ := later_facts hb; clear hb; (try simp at hzz)) | (go_at_call 116; refine (IE.out _ (HT2.out.later (by repeat (first | (with_reducible exact Later.refl _) | (with_reducible exact Hid.out (by assumption)) | (with_reducible refine Later.alloc ?_ _) | (with_reducible refine Later.setCell ?_ (by simp; omega) _) | (with_reducible refine Later.setCell ?_ (by simp) _) | (with_reducible refine Later.drewN ?_ _) | (with_reducible refine Later.drew ?_) | (with_reducible refine Later.trans ?_ (Hid.out (by assumption)))))) (O3.out.later (by repeat (first | (with_reducible exact Later.refl _) | (with_reducible exact Hid.out (by assumption)) | (with_reducible refine Later.alloc ?_ _) | (with_reducible refine Later.setCell ?_ (by simp; omega) _) | (with_reducible refine Later.setCell ?_ (by simp) _) | (with_reducible refine Later.drewN ?_ _) | (with_reducible refine Later.drew ?_) | (with_reducible refine Later.trans ?_ (Hid.out (by assumption))))))).mono ?_; rintro e w2 ⟨rfl, hb⟩; have H2 := Lib.hid hb; clear hb))
          all_goals
            go_ret
            exact ⟨by rw [HB.out]; rfl, Later.trans (by repeat (first | (with_reducible exact Later.refl _) | (with_reducible exact Hid.out (by assumption)) | (with_reducible refine Later.alloc ?_ _) | (with_reducible refine Later.setCell ?_ (by simp; omega) _) | (with_reducible refine Later.setCell ?_ (by simp) _) | (with_reducible refine Later.drewN ?_ _) | (with_reducible refine Later.drew ?_) | (with_reducible refine Later.trans ?_ (Hid.out (by assumption))))) H2.out⟩
        · go_wp2_with (first | (go_at_call 78; refine (IN.out _).mono ?_; rintro e w1 ⟨rfl, hb⟩; obtain ⟨H1, hcc, hff, hzz⟩ := later_facts hb; clear hb; (try simp at hzz)) | (go_at_call 116; refine (IE.out _ (HT2.out.later (by repeat (first | (with_reducible exact Later.refl _) | (with_reducible exact Hid.out (by assumption)) | (with_reducible refine Later.alloc ?_ _) | (with_reducible refine Later.setCell ?_ (by simp; omega) _) | (with_reducible refine Later.setCell ?_ (by simp) _) | (with_reducible refine Later.drewN ?_ _) | (with_reducible refine Later.drew ?_) | (with_reducible refine Later.trans ?_ (Hid.out (by assumption)))))) (O3.out.later (by repeat (first | (with_reducible exact Later.refl _) | (with_reducible exact Hid.out (by assumption)) | (with_reducible refine Later.alloc ?_ _) | (with_reducible refine Later.setCell ?_ (by simp; omega) _) | (with_reducible refine Later.setCell ?_ (by simp) _) | (with_reducible refine Later.drewN ?_ _) | (with_reducible refine Later.drew ?_) | (with_reducible refine Later.trans ?_ (Hid.out (by assumption))))))).mono ?_; rintro e w2 ⟨rfl, hb⟩; have H2 := Lib.hid hb; clear hb))
          all_goals
            go_roundw
            case rel =>
              refine ⟨k + 1, by omega, by go_num, Later.trans (by repeat (first | (with_reducible exact Later.refl _) | (with_reducible exact Hid.out (by assumption)) | (with_reducible refine Later.alloc ?_ _) | (with_reducible refine Later.setCell ?_ (by simp; omega) _) | (with_reducible refine Later.setCell ?_ (by simp) _) | (with_reducible refine Later.drewN ?_ _) | (with_reducible refine Later.drew ?_) | (with_reducible refine Later.trans ?_ (Hid.out (by assumption))))) H2.out, Lib.hid ?_⟩
              intro q hq
              rcases Nat.lt_or_ge q k with h1 | h1
              · exact HI.out q h1
              · obtain rfl : q = k := by omega
                exact HK.out
            case measure => simp [intOf]; omega
    · obtain rfl : k = n := by omega
      have HF : Hid (lnsB M = (decide (1 ≤ k) && decide (k ≤ 40))) := Lib.hid (by unfold lnsB; rw [allL_all M (by rw [HL.out]; exact HI.out), HL.out]; rfl)
      clear hb
      rcases (show k = 0 ∨ 40 < k ∨ (1 ≤ k ∧ k ≤ 40) by omega) with h0 | h0 | ⟨h0, h1⟩
      · subst h0
        go_wp2_with fail
        all_goals
          go_ret
          exact ⟨by rw [HF.out]; rfl, B3.out⟩
      · rw [decide_eq_false (show ¬ k ≤ 40 by omega), Bool.and_false] at HF
        have h3 : 0 < k := by omega
        go_wp2_with fail
        all_goals
          go_ret
          exact ⟨by rw [HF.out]; first | rfl | exact ret_b (by simp; omega), B3.out⟩
      · rw [decide_eq_true h0, decide_eq_true h1] at HF
        have h3 : 0 < k := by omega
        go_wp2_with fail
        all_goals
          go_ret
          exact ⟨by rw [HF.out]; first | rfl | exact ret_b (by simp; omega), B3.out⟩
theorem s_Names (a : Option Addr) (n cap : Nat) (W : List (List UInt8)) (low : Nat) (w : World) (hlow : low ≤ 1) (hs : Sts w a n W) :
    Calls Tryd.prog 96 #[.slice a n cap, .int .i64 low] w fun e w' => e = .returned (.bool (nmsB W && decide (low ≤ W.length))) ∧ Later w w' := by
  have HS := Lib.hid hs
  have HL := Lib.hid hs.1
  have hn := hs.2.1
  clear hs
  go_enter Tryd.func96, Tryd.ntmps96
  go_wp2_with fail
  go_loopw [5] (fun i wr => ∃ k : Nat, k ≤ n ∧ i = .int .i64 k ∧ Later w wr ∧ Hid (∀ j, j < k → nmB (wx W j) = true)) (fun i _ => n - (intOf i).toNat)
  case atStart => exact ⟨0, by omega, rfl, Later.refl _, Lib.hid (by intro j h; omega)⟩
  case round =>
    obtain ⟨k, hk, rfl, hb, HI⟩ := hrel
    have B3 := Lib.hid hb
    by_cases hlt : k < n
    · obtain ⟨b, off, rfl, c0⟩ := (HS.out.later hb).at k hlt
      have hle := HS.out.len k hlt
      have IN : Hid (∀ W', Calls Tryd.prog 74 #[.string (tx (wx W k))] W' fun e w' => e = .returned (.bool (nmB (wx W k))) ∧ Later W' w') := Lib.hid (fun W' => s_Name (tx (wx W k)) W' hle)
      obtain ⟨y, hy⟩ : ∃ y, y = tx (wx W k) := ⟨_, rfl⟩
      rw [← hy] at c0 IN
      clear hy hb hle
      cases ht : nmB (wx W k)
      · have HB : Hid (nmsB W = false) := Lib.hid (by unfold nmsB; rw [allN_bad W k (by rw [HL.out]; exact hlt) ht]; rfl)
        rw [ht] at IN
        clear ht
        go_wp2_with (go_at_call 74; refine (IN.out _).mono ?_; rintro e w1 ⟨rfl, hb⟩; have H1 := Lib.hid hb; clear hb)
        go_ret
        exact ⟨by rw [HB.out]; rfl, (by repeat (first | (with_reducible exact Later.refl _) | (with_reducible exact Hid.out (by assumption)) | (with_reducible refine Later.alloc ?_ _) | (with_reducible refine Later.setCell ?_ (by simp; omega) _) | (with_reducible refine Later.setCell ?_ (by simp) _) | (with_reducible refine Later.drewN ?_ _) | (with_reducible refine Later.drew ?_) | (with_reducible refine Later.trans ?_ (Hid.out (by assumption)))))⟩
      · have HT := Lib.hid ht
        rw [ht] at IN
        clear ht
        go_wp2_with (go_at_call 74; refine (IN.out _).mono ?_; rintro e w1 ⟨rfl, hb⟩; have H1 := Lib.hid hb; clear hb)
        go_roundw
        case rel =>
          refine ⟨k + 1, by omega, by go_num, (by repeat (first | (with_reducible exact Later.refl _) | (with_reducible exact Hid.out (by assumption)) | (with_reducible refine Later.alloc ?_ _) | (with_reducible refine Later.setCell ?_ (by simp; omega) _) | (with_reducible refine Later.setCell ?_ (by simp) _) | (with_reducible refine Later.drewN ?_ _) | (with_reducible refine Later.drew ?_) | (with_reducible refine Later.trans ?_ (Hid.out (by assumption))))), Lib.hid ?_⟩
          intro q hq
          rcases Nat.lt_or_ge q k with h1 | h1
          · exact HI.out q h1
          · obtain rfl : q = k := by omega
            exact HT.out
        case measure => simp [intOf]; omega
    · obtain rfl : k = n := by omega
      have HF : Hid (((nmsB W && decide (low ≤ W.length))) = (decide ((low : Int) ≤ (k : Int)) && decide ((k : Int) ≤ 20))) := Lib.hid (by
        unfold nmsB; rw [allN_all W (by rw [HL.out]; exact HI.out), HL.out, Bool.true_and, Bool.and_comm]
        congr 1
        · exact decide_eq_decide.2 (by omega)
        · exact decide_eq_decide.2 (by omega))
      have IR := Lib.hid (fun W' => s_InR (k : Int) (low : Int) 20 W' ⟨by omega, by omega⟩)
      obtain ⟨t, ht⟩ : ∃ t, t = (decide ((low : Int) ≤ (k : Int)) && decide ((k : Int) ≤ 20)) := ⟨_, rfl⟩
      rw [← ht] at HF IR
      clear hb ht
      go_wp2_with (go_at_call 98; refine (IR.out _).mono ?_; rintro e w' ⟨rfl, rfl⟩)
      go_ret
      exact ⟨by rw [HF.out]; rfl, B3.out⟩
end Go.Proofs.YtokipobjpinhmaaDoor
namespace Go.Proofs.YtokipobjpinhmaaDoor
open Go.RowKit Go.Shelf
set_option maxHeartbeats 8000000
set_option maxRecDepth 100000
set_option linter.unusedVariables false
set_option linter.unusedSimpArgs false
theorem l_eqStringS_same (a b : Option Addr) (n cap m cap' : Nat) (W : List (List UInt8)) (w : World) (hs : Sts w a n W) (ht : Sts w b m W) :
    Calls Tryd.prog 33 #[.slice a n cap, .slice b m cap'] w fun e w' => e = .returned (.bool true) ∧ Later w w' := by
  have hn := hs.1; have hm := ht.1
  obtain rfl : n = m := by omega
  have HS := Lib.hid hs; have HT := Lib.hid ht
  have hn' := hs.2.1
  clear hs ht hm hn
  have e0 : ((n : Int) != (n : Int)) = false := by simp
  go_enter Tryd.func33, Tryd.ntmps33
  go_wp2
  go_loopw [5] (fun i wr => ∃ k : Nat, k ≤ n ∧ i = .int .i64 k ∧ Later w wr) (fun i _ => n - (intOf i).toNat)
  case atStart => exact ⟨0, by omega, rfl, Later.refl _⟩
  case round =>
    obtain ⟨k, hk, rfl, hlw⟩ := hrel
    have HW := Lib.hid hlw
    clear hlw
    by_cases hlt : k < n
    · obtain ⟨b1, o1, rfl, c1⟩ := (HS.out.later HW.out).at k hlt
      obtain ⟨b2, o2, rfl, d1⟩ := (HT.out.later HW.out).at k hlt
      obtain ⟨y, hy⟩ : ∃ y, y = tx (wx W k) := ⟨_, rfl⟩
      rw [← hy] at c1 d1
      have e9 : (y.toList != y.toList) = false := by simp
      clear hy
      go_wp2_with fail
      go_region_held3 (fun w' => w'.cell? ⟨b1, o1 + k, none⟩ = some (.string y) ∧ w'.cell? ⟨b2, o2 + k, none⟩ = some (.string y)) (exact ⟨c1, d1⟩) (fail)
      go_wp2
      go_roundw
      case rel => exact ⟨k + 1, by omega, by go_num, (by repeat (first | (with_reducible exact Later.refl _) | (with_reducible exact Hid.out (by assumption)) | (with_reducible refine Later.alloc ?_ _) | (with_reducible refine Later.setCell ?_ (by simp; omega) _) | (with_reducible refine Later.setCell ?_ (by simp) _) | (with_reducible refine Later.drewN ?_ _) | (with_reducible refine Later.drew ?_) | (with_reducible refine Later.trans ?_ (Hid.out (by assumption)))))⟩
      case measure => simp [intOf]; omega
    · obtain rfl : k = n := by omega
      go_wp2
      go_ret
      exact ⟨rfl, HW.out⟩
theorem l_eqLine_same (t : List UInt8) (a b : Option Addr) (n cap cap' : Nat) (L : List Trm) (w : World) (hs : Trs w a n L) (ht : Trs w b n L) :
    Calls Tryd.prog 105 #[.agg #[.string (tx t), .slice a n cap], .agg #[.string (tx t), .slice b n cap']] w fun e w' => e = .returned (.bool true) ∧ Later w w' := by
  have HS := Lib.hid hs; have HT := Lib.hid ht
  clear hs ht
  obtain ⟨s, hs⟩ : ∃ s, s = tx t := ⟨_, rfl⟩
  rw [← hs]
  have e9 : (s.toList != s.toList) = false := by simp
  clear hs
  go_enter Tryd.func105, Tryd.ntmps105
  go_wp2_with fail
  refine (l_eqTermS_same a b n cap n cap' L _ (HS.out.later (by repeat (first | (with_reducible exact Later.refl _) | (with_reducible exact Hid.out (by assumption)) | (with_reducible refine Later.alloc ?_ _) | (with_reducible refine Later.setCell ?_ (by simp; omega) _) | (with_reducible refine Later.setCell ?_ (by simp) _) | (with_reducible refine Later.drewN ?_ _) | (with_reducible refine Later.drew ?_) | (with_reducible refine Later.trans ?_ (Hid.out (by assumption)))))) (HT.out.later (by repeat (first | (with_reducible exact Later.refl _) | (with_reducible exact Hid.out (by assumption)) | (with_reducible refine Later.alloc ?_ _) | (with_reducible refine Later.setCell ?_ (by simp; omega) _) | (with_reducible refine Later.setCell ?_ (by simp) _) | (with_reducible refine Later.drewN ?_ _) | (with_reducible refine Later.drew ?_) | (with_reducible refine Later.trans ?_ (Hid.out (by assumption))))))).mono ?_
  rintro e w1 ⟨rfl, hb⟩
  have HB : Hid (Later w w1) := Lib.hid (Later.trans (by repeat (first | (with_reducible exact Later.refl _) | (with_reducible exact Hid.out (by assumption)) | (with_reducible refine Later.alloc ?_ _) | (with_reducible refine Later.setCell ?_ (by simp; omega) _) | (with_reducible refine Later.setCell ?_ (by simp) _) | (with_reducible refine Later.drewN ?_ _) | (with_reducible refine Later.drew ?_) | (with_reducible refine Later.trans ?_ (Hid.out (by assumption))))) hb)
  clear hb
  go_wp2_with fail
  go_ret
  exact ⟨rfl, HB.out⟩
theorem l_eqLineS_same (a b : Option Addr) (n cap m cap' : Nat) (M : List Lne) (w : World) (hs : Lns w a n M) (ht : Lns w b m M) :
    Calls Tryd.prog 65 #[.slice a n cap, .slice b m cap'] w fun e w' => e = .returned (.bool true) ∧ Later w w' := by
  have hn := hs.1; have hm := ht.1
  obtain rfl : n = m := by omega
  have HS := Lib.hid hs; have HT := Lib.hid ht
  have hn' := hs.2.1
  clear hs ht hm hn
  have e0 : ((n : Int) != (n : Int)) = false := by simp
  go_enter Tryd.func65, Tryd.ntmps65
  go_wp2
  go_loopw [5] (fun i wr => ∃ k : Nat, k ≤ n ∧ i = .int .i64 k ∧ Later w wr) (fun i _ => n - (intOf i).toNat)
  case atStart => exact ⟨0, by omega, rfl, Later.refl _⟩
  case round =>
    obtain ⟨k, hk, rfl, hlw⟩ := hrel
    have HW := Lib.hid hlw
    clear hlw
    by_cases hlt : k < n
    · obtain ⟨b1, o1, ta, tc, rfl, c1, c2, c3⟩ := (HS.out.later HW.out).2.2.1 k hlt
      obtain ⟨b2, o2, ua, uc, rfl, d1, d2, d3⟩ := (HT.out.later HW.out).2.2.1 k hlt
      have C3 := Lib.hid c3; have D3 := Lib.hid d3
      have EQ := Lib.hid (fun W h1 h2 => l_eqLine_same (ltx M k) ta ua (lrx M k).length tc uc (lrx M k) W h1 h2)
      obtain ⟨y, hy⟩ : ∃ y, y = tx (ltx M k) := ⟨_, rfl⟩
      obtain ⟨q, hq⟩ : ∃ q, q = (lrx M k).length := ⟨_, rfl⟩
      rw [← hy] at c1 d1 EQ; rw [← hq] at c2 d2 C3 D3 EQ
      have C := Lib.hid c1; have C' := Lib.hid c2; have D := Lib.hid d1; have D' := Lib.hid d2
      have KL : Hid (∀ W', Later wr W' → W'.cell? ⟨b1, o1 + k * 2, none⟩ = some (.string y) ∧ W'.cell? ⟨b1, o1 + k * 2 + 1, none⟩ = some (.slice ta q tc) ∧ W'.cell? ⟨b2, o2 + k * 2, none⟩ = some (.string y) ∧ W'.cell? ⟨b2, o2 + k * 2 + 1, none⟩ = some (.slice ua q uc)) := Lib.hid (fun W' h => ⟨by rw [h.cell (p := ⟨b1, o1 + k * 2, none⟩) (cell_lt C.out)]; exact C.out, by rw [h.cell (p := ⟨b1, o1 + k * 2 + 1, none⟩) (cell_lt C.out)]; exact C'.out, by rw [h.cell (p := ⟨b2, o2 + k * 2, none⟩) (cell_lt D.out)]; exact D.out, by rw [h.cell (p := ⟨b2, o2 + k * 2 + 1, none⟩) (cell_lt D.out)]; exact D'.out⟩)
      have RL := Lib.hid (Later.refl wr)
      clear hy hq c3 d3
      go_wp2_with fail
      go_region_held3 (fun w' => w'.cell? ⟨b1, o1 + k * 2, none⟩ = some (.string y) ∧ w'.cell? ⟨b1, o1 + k * 2 + 1, none⟩ = some (.slice ta q tc) ∧ w'.cell? ⟨b2, o2 + k * 2, none⟩ = some (.string y) ∧ w'.cell? ⟨b2, o2 + k * 2 + 1, none⟩ = some (.slice ua q uc)) (exact KL.out _ (by repeat (first | (with_reducible exact Later.refl _) | (with_reducible exact Hid.out (by assumption)) | (with_reducible refine Later.alloc ?_ _) | (with_reducible refine Later.setCell ?_ (by simp; omega) _) | (with_reducible refine Later.setCell ?_ (by simp) _) | (with_reducible refine Later.drewN ?_ _) | (with_reducible refine Later.drew ?_) | (with_reducible refine Later.trans ?_ (Hid.out (by assumption))))))
        (first | (go_at_call 105; refine (EQ.out _ (C3.out.later (by repeat (first | (with_reducible exact Later.refl _) | (with_reducible exact Hid.out (by assumption)) | (with_reducible refine Later.alloc ?_ _) | (with_reducible refine Later.setCell ?_ (by simp; omega) _) | (with_reducible refine Later.setCell ?_ (by simp) _) | (with_reducible refine Later.drewN ?_ _) | (with_reducible refine Later.drew ?_) | (with_reducible refine Later.trans ?_ (Hid.out (by assumption)))))) (D3.out.later (by repeat (first | (with_reducible exact Later.refl _) | (with_reducible exact Hid.out (by assumption)) | (with_reducible refine Later.alloc ?_ _) | (with_reducible refine Later.setCell ?_ (by simp; omega) _) | (with_reducible refine Later.setCell ?_ (by simp) _) | (with_reducible refine Later.drewN ?_ _) | (with_reducible refine Later.drew ?_) | (with_reducible refine Later.trans ?_ (Hid.out (by assumption))))))).mono ?_; rintro e w1 ⟨rfl, hb1⟩; have H1 := Lib.hid hb1; clear hb1))
      all_goals
        go_wp2
        go_roundw
        case rel => exact ⟨k + 1, by omega, by go_num, (by repeat (first | (with_reducible exact Later.refl _) | (with_reducible exact Hid.out (by assumption)) | (with_reducible refine Later.alloc ?_ _) | (with_reducible refine Later.setCell ?_ (by simp; omega) _) | (with_reducible refine Later.setCell ?_ (by simp) _) | (with_reducible refine Later.drewN ?_ _) | (with_reducible refine Later.drew ?_) | (with_reducible refine Later.trans ?_ (Hid.out (by assumption)))))⟩
        case measure => simp [intOf]; omega
    · obtain rfl : k = n := by omega
      go_wp2
      go_ret
      exact ⟨rfl, HW.out⟩
theorem l_eqProgram_same (u v : Value) (p : Prg) (w : World) (hu : PgV w u p) (hv : PgV w v p) :
    Calls Tryd.prog 26 #[u, v] w fun e w' => e = .returned (.bool true) ∧ Later w w' := by
  obtain ⟨a1, ac1, a2, ac2, a3, ac3, a4, ac4, rfl, h1, h2, h3, h4, _, _⟩ := hu
  obtain ⟨b1, bc1, b2, bc2, b3, bc3, b4, bc4, rfl, g1, g2, g3, g4, _, _⟩ := hv
  have P1 := Lib.hid h1; have P2 := Lib.hid h2; have P3 := Lib.hid h3; have P4 := Lib.hid h4
  have Q1 := Lib.hid g1; have Q2 := Lib.hid g2; have Q3 := Lib.hid g3; have Q4 := Lib.hid g4
  clear h1 h2 h3 h4 g1 g2 g3 g4
  obtain ⟨s0, hs0⟩ : ∃ q, q = tx p.nm := ⟨_, rfl⟩
  obtain ⟨s4, hs4⟩ : ∃ q, q = tx p.grd := ⟨_, rfl⟩
  obtain ⟨n1, hn1⟩ : ∃ q, q = p.ins.length := ⟨_, rfl⟩
  obtain ⟨n2, hn2⟩ : ∃ q, q = p.vrs.length := ⟨_, rfl⟩
  obtain ⟨n3, hn3⟩ : ∃ q, q = p.outs.length := ⟨_, rfl⟩
  obtain ⟨n4, hn4⟩ : ∃ q, q = p.lns.length := ⟨_, rfl⟩
  rw [← hn1] at P1 Q1; rw [← hn2] at P2 Q2; rw [← hn3] at P3 Q3; rw [← hn4] at P4 Q4
  rw [← hs0, ← hs4, ← hn1, ← hn2, ← hn3, ← hn4]
  have e0 : (s0.toList != s0.toList) = false := by simp
  have e4 : (s4.toList != s4.toList) = false := by simp
  clear hs0 hs4 hn1 hn2 hn3 hn4
  have f0 : Fr (w.heap.size) [.string s0, .slice a1 n1 ac1, .slice a2 n2 ac2, .slice a3 n3 ac3, .string s4, .slice a4 n4 ac4] (w.alloc (.cells #[.string s0, .slice a1 n1 ac1, .slice a2 n2 ac2, .slice a3 n3 ac3, .string s4, .slice a4 n4 ac4] 27)) := frP_new w [.string s0, .slice a1 n1 ac1, .slice a2 n2 ac2, .slice a3 n3 ac3, .string s4, .slice a4 n4 ac4] _
  have F0 := Lib.hid (fr_later f0 ((Later.refl (w.alloc (.cells #[.string s0, .slice a1 n1 ac1, .slice a2 n2 ac2, .slice a3 n3 ac3, .string s4, .slice a4 n4 ac4] 27))).alloc (.cells #[.string s0, .slice b1 n1 bc1, .slice b2 n2 bc2, .slice b3 n3 bc3, .string s4, .slice b4 n4 bc4] 27)))
  have F1 : Hid (Fr (w.heap.size + 1) [.string s0, .slice b1 n1 bc1, .slice b2 n2 bc2, .slice b3 n3 bc3, .string s4, .slice b4 n4 bc4] ((w.alloc (.cells #[.string s0, .slice a1 n1 ac1, .slice a2 n2 ac2, .slice a3 n3 ac3, .string s4, .slice a4 n4 ac4] 27)).alloc (.cells #[.string s0, .slice b1 n1 bc1, .slice b2 n2 bc2, .slice b3 n3 bc3, .string s4, .slice b4 n4 bc4] 27))) := Lib.hid (by have h := frP_new (w.alloc (.cells #[.string s0, .slice a1 n1 ac1, .slice a2 n2 ac2, .slice a3 n3 ac3, .string s4, .slice a4 n4 ac4] 27)) [.string s0, .slice b1 n1 bc1, .slice b2 n2 bc2, .slice b3 n3 bc3, .string s4, .slice b4 n4 bc4] 27; rwa [World.size_alloc] at h)
  have HL : Hid (Later w ((w.alloc (.cells #[.string s0, .slice a1 n1 ac1, .slice a2 n2 ac2, .slice a3 n3 ac3, .string s4, .slice a4 n4 ac4] 27)).alloc (.cells #[.string s0, .slice b1 n1 bc1, .slice b2 n2 bc2, .slice b3 n3 bc3, .string s4, .slice b4 n4 bc4] 27))) := Lib.hid (((Later.refl _).alloc _).alloc _)
  clear f0
  go_enter Tryd.func26, Tryd.ntmps26
  go_wp2_with fail
  refine calls_into (S := fun W => Fr (w.heap.size) [.string s0, .slice a1 n1 ac1, .slice a2 n2 ac2, .slice a3 n3 ac3, .string s4, .slice a4 n4 ac4] W ∧ Fr (w.heap.size + 1) [.string s0, .slice b1 n1 bc1, .slice b2 n2 bc2, .slice b3 n3 bc3, .string s4, .slice b4 n4 bc4] W ∧ Later w W) ⟨F0.out, F1.out, HL.out⟩ ?_
  clear F0 F1 HL
  rintro W0 ⟨f0, f1, hl⟩
  refine (l_eqStringS_same a1 b1 n1 ac1 n1 bc1 p.ins _ (P1.out.later hl) (Q1.out.later hl)).mono ?_
  rintro e v0 ⟨rfl, hb⟩
  have F0 := Lib.hid (fr_later f0 hb)
  have F1 := Lib.hid (fr_later f1 hb)
  have HL := Lib.hid (hl.trans hb)
  clear f0 f1 hl hb
  obtain ⟨q0, q1, q2, q3, q4, q5, _, _, _, _, _, _⟩ := F0.out.o6
  obtain ⟨o0, o1, o2, o3, o4, o5, _, _, _, _, _, _⟩ := F1.out.o6
  go_wp2_with fail
  clear q0 q1 q2 q3 q4 q5 o0 o1 o2 o3 o4 o5
  refine calls_into (S := fun W => Fr (w.heap.size) [.string s0, .slice a1 n1 ac1, .slice a2 n2 ac2, .slice a3 n3 ac3, .string s4, .slice a4 n4 ac4] W ∧ Fr (w.heap.size + 1) [.string s0, .slice b1 n1 bc1, .slice b2 n2 bc2, .slice b3 n3 bc3, .string s4, .slice b4 n4 bc4] W ∧ Later w W) ⟨F0.out, F1.out, HL.out⟩ ?_
  clear F0 F1 HL
  rintro W1 ⟨f0, f1, hl⟩
  refine (l_eqStringS_same a2 b2 n2 ac2 n2 bc2 p.vrs _ (P2.out.later hl) (Q2.out.later hl)).mono ?_
  rintro e v1 ⟨rfl, hb⟩
  have F0 := Lib.hid (fr_later f0 hb)
  have F1 := Lib.hid (fr_later f1 hb)
  have HL := Lib.hid (hl.trans hb)
  clear f0 f1 hl hb
  obtain ⟨q0, q1, q2, q3, q4, q5, _, _, _, _, _, _⟩ := F0.out.o6
  obtain ⟨o0, o1, o2, o3, o4, o5, _, _, _, _, _, _⟩ := F1.out.o6
  go_wp2_with fail
  clear q0 q1 q2 q3 q4 q5 o0 o1 o2 o3 o4 o5
  refine calls_into (S := fun W => Fr (w.heap.size) [.string s0, .slice a1 n1 ac1, .slice a2 n2 ac2, .slice a3 n3 ac3, .string s4, .slice a4 n4 ac4] W ∧ Fr (w.heap.size + 1) [.string s0, .slice b1 n1 bc1, .slice b2 n2 bc2, .slice b3 n3 bc3, .string s4, .slice b4 n4 bc4] W ∧ Later w W) ⟨F0.out, F1.out, HL.out⟩ ?_
  clear F0 F1 HL
  rintro W2 ⟨f0, f1, hl⟩
  refine (l_eqStringS_same a3 b3 n3 ac3 n3 bc3 p.outs _ (P3.out.later hl) (Q3.out.later hl)).mono ?_
  rintro e v2 ⟨rfl, hb⟩
  have F0 := Lib.hid (fr_later f0 hb)
  have F1 := Lib.hid (fr_later f1 hb)
  have HL := Lib.hid (hl.trans hb)
  clear f0 f1 hl hb
  obtain ⟨q0, q1, q2, q3, q4, q5, _, _, _, _, _, _⟩ := F0.out.o6
  obtain ⟨o0, o1, o2, o3, o4, o5, _, _, _, _, _, _⟩ := F1.out.o6
  go_wp2_with fail
  clear q0 q1 q2 q3 q4 q5 o0 o1 o2 o3 o4 o5
  refine calls_into (S := fun W => Fr (w.heap.size) [.string s0, .slice a1 n1 ac1, .slice a2 n2 ac2, .slice a3 n3 ac3, .string s4, .slice a4 n4 ac4] W ∧ Fr (w.heap.size + 1) [.string s0, .slice b1 n1 bc1, .slice b2 n2 bc2, .slice b3 n3 bc3, .string s4, .slice b4 n4 bc4] W ∧ Later w W) ⟨F0.out, F1.out, HL.out⟩ ?_
  clear F0 F1 HL
  rintro W3 ⟨f0, f1, hl⟩
  refine (l_eqLineS_same a4 b4 n4 ac4 n4 bc4 p.lns _ (P4.out.later hl) (Q4.out.later hl)).mono ?_
  rintro e v3 ⟨rfl, hb⟩
  have F0 := Lib.hid (fr_later f0 hb)
  have F1 := Lib.hid (fr_later f1 hb)
  have HL := Lib.hid (hl.trans hb)
  clear f0 f1 hl hb
  obtain ⟨q0, q1, q2, q3, q4, q5, _, _, _, _, _, _⟩ := F0.out.o6
  obtain ⟨o0, o1, o2, o3, o4, o5, _, _, _, _, _, _⟩ := F1.out.o6
  go_wp2_with fail
  go_ret
  exact ⟨rfl, HL.out⟩
end Go.Proofs.YtokipobjpinhmaaDoor
namespace Go.Proofs.YtokipobjpinhmaaDoor
open Go.RowKit Go.Shelf
set_option maxHeartbeats 16000000
set_option maxRecDepth 100000
set_option linter.unusedVariables false
set_option linter.unusedSimpArgs false
theorem i_IsWritten (v : Value) (p : Prg) (w : World) (hp : PgV w v p) (ho : Ops w) (hl : p.lns.length ≤ 1000000000) : Calls Tryd.prog 49 #[v] w fun e w' => e = .returned (.bool (wrtB p)) ∧ Later w w' := by
  obtain ⟨a1, c1, a2, c2, a3, c3, a4, c4, rfl, h1, h2, h3, h4, h5, h6⟩ := hp
  have P1 := Lib.hid h1; have P2 := Lib.hid h2; have P3 := Lib.hid h3; have P4 := Lib.hid h4
  have HO := Lib.hid ho
  have N0 : Hid (∀ W, Calls Tryd.prog 78 #[.string (tx p.nm)] W fun e w' => e = .returned (.bool (nmB p.nm)) ∧ Later W w') := Lib.hid (fun W => i_isName (tx p.nm) W h5)
  have N4 : Hid (∀ W, Calls Tryd.prog 78 #[.string (tx p.grd)] W fun e w' => e = .returned (.bool (nmB p.grd)) ∧ Later W w') := Lib.hid (fun W => i_isName (tx p.grd) W h6)
  have A1 := Lib.hid (fun W h => i_areNames a1 p.ins.length c1 p.ins W h)
  have A2 := Lib.hid (fun W h => i_areNames a2 p.vrs.length c2 p.vrs W h)
  have A3 := Lib.hid (fun W h => i_areNames a3 p.outs.length c3 p.outs W h)
  have A4 := Lib.hid (fun W h ho => i_areLines a4 p.lns.length c4 p.lns W h ho)
  have EG : ((tx p.grd).toList.isEmpty) = decide (p.grd = []) := by
    rw [Lib.toList_data]
    show p.grd.isEmpty = _
    cases p.grd <;> simp
  have HW : Hid (wrtB p = (nmB p.nm && (decide (p.grd = []) || nmB p.grd) && decide (1 ≤ p.ins.length) && decide (1 ≤ p.outs.length) && nmsB p.ins && nmsB p.vrs && nmsB p.outs && lnsB p.lns)) := Lib.hid rfl
  have hn1 := P1.out.2.1; have hn3 := P3.out.2.1
  obtain ⟨s0, hs0⟩ : ∃ q, q = tx p.nm := ⟨_, rfl⟩
  obtain ⟨s4, hs4⟩ : ∃ q, q = tx p.grd := ⟨_, rfl⟩
  obtain ⟨n1, hn1q⟩ : ∃ q, q = p.ins.length := ⟨_, rfl⟩
  obtain ⟨n2, hn2q⟩ : ∃ q, q = p.vrs.length := ⟨_, rfl⟩
  obtain ⟨n3, hn3q⟩ : ∃ q, q = p.outs.length := ⟨_, rfl⟩
  obtain ⟨n4, hn4q⟩ : ∃ q, q = p.lns.length := ⟨_, rfl⟩
  obtain ⟨b0, hb0⟩ : ∃ q, q = nmB p.nm := ⟨_, rfl⟩
  obtain ⟨b4, hb4⟩ : ∃ q, q = nmB p.grd := ⟨_, rfl⟩
  obtain ⟨g0, hg0⟩ : ∃ q, q = decide (p.grd = []) := ⟨_, rfl⟩
  obtain ⟨b1, hb1⟩ : ∃ q, q = nmsB p.ins := ⟨_, rfl⟩
  obtain ⟨b2, hb2⟩ : ∃ q, q = nmsB p.vrs := ⟨_, rfl⟩
  obtain ⟨b3, hb3⟩ : ∃ q, q = nmsB p.outs := ⟨_, rfl⟩
  obtain ⟨b5, hb5⟩ : ∃ q, q = lnsB p.lns := ⟨_, rfl⟩
  rw [← hs0] at N0; rw [← hs4] at N4 EG; rw [← hb0] at N0 HW; rw [← hb4] at N4 HW; rw [← hg0] at EG HW; rw [← hb1] at A1 HW; rw [← hb2] at A2 HW; rw [← hb3] at A3 HW; rw [← hb5] at A4 HW
  rw [← hn1q] at A1 P1 HW hn1; rw [← hn2q] at A2 P2; rw [← hn3q] at A3 P3 HW hn3; rw [← hn4q] at A4 P4
  rw [← hs0, ← hs4, ← hn1q, ← hn2q, ← hn3q, ← hn4q]
  clear hs0 hs4 hn1q hn2q hn3q hn4q hb0 hb4 hg0 hb1 hb2 hb3 hb5 h1 h2 h3 h4 h5 h6 ho hl
  have q0 : (w.alloc (.cells #[.string s0, .slice a1 n1 c1, .slice a2 n2 c2, .slice a3 n3 c3, .string s4, .slice a4 n4 c4] 27)).cell? ⟨w.heap.size, 0, none⟩ = some (.string s0) := by rw [cell_of_row _ _ 0 _ _ (0, 0) (heap_alloc_new w _)]; rfl
  have q1 : (w.alloc (.cells #[.string s0, .slice a1 n1 c1, .slice a2 n2 c2, .slice a3 n3 c3, .string s4, .slice a4 n4 c4] 27)).cell? ⟨w.heap.size, 1, none⟩ = some (.slice a1 n1 c1) := by rw [cell_of_row _ _ 1 _ _ (0, 0) (heap_alloc_new w _)]; rfl
  have q2 : (w.alloc (.cells #[.string s0, .slice a1 n1 c1, .slice a2 n2 c2, .slice a3 n3 c3, .string s4, .slice a4 n4 c4] 27)).cell? ⟨w.heap.size, 2, none⟩ = some (.slice a2 n2 c2) := by rw [cell_of_row _ _ 2 _ _ (0, 0) (heap_alloc_new w _)]; rfl
  have q3 : (w.alloc (.cells #[.string s0, .slice a1 n1 c1, .slice a2 n2 c2, .slice a3 n3 c3, .string s4, .slice a4 n4 c4] 27)).cell? ⟨w.heap.size, 3, none⟩ = some (.slice a3 n3 c3) := by rw [cell_of_row _ _ 3 _ _ (0, 0) (heap_alloc_new w _)]; rfl
  have q4 : (w.alloc (.cells #[.string s0, .slice a1 n1 c1, .slice a2 n2 c2, .slice a3 n3 c3, .string s4, .slice a4 n4 c4] 27)).cell? ⟨w.heap.size, 4, none⟩ = some (.string s4) := by rw [cell_of_row _ _ 4 _ _ (0, 0) (heap_alloc_new w _)]; rfl
  have q5 : (w.alloc (.cells #[.string s0, .slice a1 n1 c1, .slice a2 n2 c2, .slice a3 n3 c3, .string s4, .slice a4 n4 c4] 27)).cell? ⟨w.heap.size, 5, none⟩ = some (.slice a4 n4 c4) := by rw [cell_of_row _ _ 5 _ _ (0, 0) (heap_alloc_new w _)]; rfl
  have hW0 : w.heap.size < (w.alloc (.cells #[.string s0, .slice a1 n1 c1, .slice a2 n2 c2, .slice a3 n3 c3, .string s4, .slice a4 n4 c4] 27)).heap.size := by rw [World.size_alloc]; exact Nat.lt_succ_self _
  have C0 : Hid (∀ W', Later (w.alloc (.cells #[.string s0, .slice a1 n1 c1, .slice a2 n2 c2, .slice a3 n3 c3, .string s4, .slice a4 n4 c4] 27)) W' → W'.cell? ⟨w.heap.size, 0, none⟩ = some (.string s0) ∧ W'.cell? ⟨w.heap.size, 1, none⟩ = some (.slice a1 n1 c1) ∧ W'.cell? ⟨w.heap.size, 2, none⟩ = some (.slice a2 n2 c2) ∧ W'.cell? ⟨w.heap.size, 3, none⟩ = some (.slice a3 n3 c3) ∧ W'.cell? ⟨w.heap.size, 4, none⟩ = some (.string s4) ∧ W'.cell? ⟨w.heap.size, 5, none⟩ = some (.slice a4 n4 c4)) := Lib.hid (fun W' q => ⟨by rw [q.cell (p := ⟨w.heap.size, 0, none⟩) hW0]; exact q0, by rw [q.cell (p := ⟨w.heap.size, 1, none⟩) hW0]; exact q1, by rw [q.cell (p := ⟨w.heap.size, 2, none⟩) hW0]; exact q2, by rw [q.cell (p := ⟨w.heap.size, 3, none⟩) hW0]; exact q3, by rw [q.cell (p := ⟨w.heap.size, 4, none⟩) hW0]; exact q4, by rw [q.cell (p := ⟨w.heap.size, 5, none⟩) hW0]; exact q5⟩)
  have A0 : Hid (Later w (w.alloc (.cells #[.string s0, .slice a1 n1 c1, .slice a2 n2 c2, .slice a3 n3 c3, .string s4, .slice a4 n4 c4] 27))) := Lib.hid ((Later.refl _).alloc _)
  clear hW0
  go_enter Tryd.func49, Tryd.ntmps49
  go_wp2_with fail
  generalize w.alloc (.cells #[.string s0, .slice a1 n1 c1, .slice a2 n2 c2, .slice a3 n3 c3, .string s4, .slice a4 n4 c4] 27) = W0 at C0 A0 q0 q1 q2 q3 q4 q5 ⊢
  clear q0 q1 q2 q3 q4 q5
  refine (N0.out _).mono ?_
  rintro e w1 ⟨rfl, hb⟩
  have L1 := Lib.hid (show Later W0 w1 from hb)
  obtain ⟨q0, q1, q2, q3, q4, q5⟩ := C0.out _ hb
  clear hb
  cases b0
  · have HWF : Hid (wrtB p = false) := Lib.hid (by rw [HW.out]; rfl)
    go_wp2_with fail
    all_goals
      go_ret
      exact ⟨by rw [HWF.out]; rfl, Later.trans A0.out L1.out⟩
  · cases g0
    · cases b4
      · have HWF : Hid (wrtB p = false) := Lib.hid (by rw [HW.out]; rfl)
        go_wp2_with (first
    | (go_at_call 78; refine (N4.out _).mono ?_; rintro e w2 ⟨rfl, hb⟩; have LW := Lib.hid (Later.trans (show Later W0 _ from (Hid.out (by assumption))) hb); obtain ⟨q0, q1, q2, q3, q4, q5⟩ := C0.out _ LW.out; clear hb)
    | (go_at_call_of 88 a1; refine (A1.out _ (P1.out.later (Later.trans A0.out (Hid.out (by assumption))))).mono ?_; rintro e w2 ⟨rfl, hb⟩; have LW := Lib.hid (Later.trans (show Later W0 _ from (Hid.out (by assumption))) hb); obtain ⟨q0, q1, q2, q3, q4, q5⟩ := C0.out _ LW.out; clear hb)
    | (go_at_call_of 88 a2; refine (A2.out _ (P2.out.later (Later.trans A0.out (Hid.out (by assumption))))).mono ?_; rintro e w2 ⟨rfl, hb⟩; have LW := Lib.hid (Later.trans (show Later W0 _ from (Hid.out (by assumption))) hb); obtain ⟨q0, q1, q2, q3, q4, q5⟩ := C0.out _ LW.out; clear hb)
    | (go_at_call_of 88 a3; refine (A3.out _ (P3.out.later (Later.trans A0.out (Hid.out (by assumption))))).mono ?_; rintro e w2 ⟨rfl, hb⟩; have LW := Lib.hid (Later.trans (show Later W0 _ from (Hid.out (by assumption))) hb); obtain ⟨q0, q1, q2, q3, q4, q5⟩ := C0.out _ LW.out; clear hb)
    | (go_at_call 89; refine (A4.out _ (P4.out.later (Later.trans A0.out (Hid.out (by assumption)))) (HO.out.later (Later.trans A0.out (Hid.out (by assumption))))).mono ?_; rintro e w2 ⟨rfl, hb⟩; have LW := Lib.hid (Later.trans (show Later W0 _ from (Hid.out (by assumption))) hb); obtain ⟨q0, q1, q2, q3, q4, q5⟩ := C0.out _ LW.out; clear hb))
        all_goals
          go_ret
          exact ⟨by rw [HWF.out]; rfl, Later.trans A0.out (Hid.out (by assumption))⟩
      · have HW := Lib.hid HW.out
        rcases (show n1 = 0 ∨ (1 ≤ n1 ∧ n3 = 0) ∨ (1 ≤ n1 ∧ 1 ≤ n3) by omega) with h | ⟨h, h'⟩ | ⟨h, h'⟩
        · subst h
          go_wp2_with (first
    | (go_at_call 78; refine (N4.out _).mono ?_; rintro e w2 ⟨rfl, hb⟩; have LW := Lib.hid (Later.trans (show Later W0 _ from (Hid.out (by assumption))) hb); obtain ⟨q0, q1, q2, q3, q4, q5⟩ := C0.out _ LW.out; clear hb)
    | (go_at_call_of 88 a1; refine (A1.out _ (P1.out.later (Later.trans A0.out (Hid.out (by assumption))))).mono ?_; rintro e w2 ⟨rfl, hb⟩; have LW := Lib.hid (Later.trans (show Later W0 _ from (Hid.out (by assumption))) hb); obtain ⟨q0, q1, q2, q3, q4, q5⟩ := C0.out _ LW.out; clear hb)
    | (go_at_call_of 88 a2; refine (A2.out _ (P2.out.later (Later.trans A0.out (Hid.out (by assumption))))).mono ?_; rintro e w2 ⟨rfl, hb⟩; have LW := Lib.hid (Later.trans (show Later W0 _ from (Hid.out (by assumption))) hb); obtain ⟨q0, q1, q2, q3, q4, q5⟩ := C0.out _ LW.out; clear hb)
    | (go_at_call_of 88 a3; refine (A3.out _ (P3.out.later (Later.trans A0.out (Hid.out (by assumption))))).mono ?_; rintro e w2 ⟨rfl, hb⟩; have LW := Lib.hid (Later.trans (show Later W0 _ from (Hid.out (by assumption))) hb); obtain ⟨q0, q1, q2, q3, q4, q5⟩ := C0.out _ LW.out; clear hb)
    | (go_at_call 89; refine (A4.out _ (P4.out.later (Later.trans A0.out (Hid.out (by assumption)))) (HO.out.later (Later.trans A0.out (Hid.out (by assumption))))).mono ?_; rintro e w2 ⟨rfl, hb⟩; have LW := Lib.hid (Later.trans (show Later W0 _ from (Hid.out (by assumption))) hb); obtain ⟨q0, q1, q2, q3, q4, q5⟩ := C0.out _ LW.out; clear hb))
          all_goals
            go_ret
            exact ⟨by rw [HW.out]; rfl, Later.trans A0.out (Hid.out (by assumption))⟩
        · subst h'
          rw [decide_eq_true h] at HW
          have e1 : ((n1 : Int) == 0) = false := by simp; omega
          go_wp2_with (first
    | (go_at_call 78; refine (N4.out _).mono ?_; rintro e w2 ⟨rfl, hb⟩; have LW := Lib.hid (Later.trans (show Later W0 _ from (Hid.out (by assumption))) hb); obtain ⟨q0, q1, q2, q3, q4, q5⟩ := C0.out _ LW.out; clear hb)
    | (go_at_call_of 88 a1; refine (A1.out _ (P1.out.later (Later.trans A0.out (Hid.out (by assumption))))).mono ?_; rintro e w2 ⟨rfl, hb⟩; have LW := Lib.hid (Later.trans (show Later W0 _ from (Hid.out (by assumption))) hb); obtain ⟨q0, q1, q2, q3, q4, q5⟩ := C0.out _ LW.out; clear hb)
    | (go_at_call_of 88 a2; refine (A2.out _ (P2.out.later (Later.trans A0.out (Hid.out (by assumption))))).mono ?_; rintro e w2 ⟨rfl, hb⟩; have LW := Lib.hid (Later.trans (show Later W0 _ from (Hid.out (by assumption))) hb); obtain ⟨q0, q1, q2, q3, q4, q5⟩ := C0.out _ LW.out; clear hb)
    | (go_at_call_of 88 a3; refine (A3.out _ (P3.out.later (Later.trans A0.out (Hid.out (by assumption))))).mono ?_; rintro e w2 ⟨rfl, hb⟩; have LW := Lib.hid (Later.trans (show Later W0 _ from (Hid.out (by assumption))) hb); obtain ⟨q0, q1, q2, q3, q4, q5⟩ := C0.out _ LW.out; clear hb)
    | (go_at_call 89; refine (A4.out _ (P4.out.later (Later.trans A0.out (Hid.out (by assumption)))) (HO.out.later (Later.trans A0.out (Hid.out (by assumption))))).mono ?_; rintro e w2 ⟨rfl, hb⟩; have LW := Lib.hid (Later.trans (show Later W0 _ from (Hid.out (by assumption))) hb); obtain ⟨q0, q1, q2, q3, q4, q5⟩ := C0.out _ LW.out; clear hb))
          all_goals
            go_ret
            exact ⟨by rw [HW.out]; rfl, Later.trans A0.out (Hid.out (by assumption))⟩
        · rw [decide_eq_true h, decide_eq_true h'] at HW
          have e1 : ((n1 : Int) == 0) = false := by simp; omega
          have e3 : ((n3 : Int) == 0) = false := by simp; omega
          clear h h'
          cases b1
          · have HW : Hid (wrtB p = false) := Lib.hid (by rw [HW.out]; rfl)
            go_wp2_with (first
    | (go_at_call 78; refine (N4.out _).mono ?_; rintro e w2 ⟨rfl, hb⟩; have LW := Lib.hid (Later.trans (show Later W0 _ from (Hid.out (by assumption))) hb); obtain ⟨q0, q1, q2, q3, q4, q5⟩ := C0.out _ LW.out; clear hb)
    | (go_at_call_of 88 a1; refine (A1.out _ (P1.out.later (Later.trans A0.out (Hid.out (by assumption))))).mono ?_; rintro e w2 ⟨rfl, hb⟩; have LW := Lib.hid (Later.trans (show Later W0 _ from (Hid.out (by assumption))) hb); obtain ⟨q0, q1, q2, q3, q4, q5⟩ := C0.out _ LW.out; clear hb)
    | (go_at_call_of 88 a2; refine (A2.out _ (P2.out.later (Later.trans A0.out (Hid.out (by assumption))))).mono ?_; rintro e w2 ⟨rfl, hb⟩; have LW := Lib.hid (Later.trans (show Later W0 _ from (Hid.out (by assumption))) hb); obtain ⟨q0, q1, q2, q3, q4, q5⟩ := C0.out _ LW.out; clear hb)
    | (go_at_call_of 88 a3; refine (A3.out _ (P3.out.later (Later.trans A0.out (Hid.out (by assumption))))).mono ?_; rintro e w2 ⟨rfl, hb⟩; have LW := Lib.hid (Later.trans (show Later W0 _ from (Hid.out (by assumption))) hb); obtain ⟨q0, q1, q2, q3, q4, q5⟩ := C0.out _ LW.out; clear hb)
    | (go_at_call 89; refine (A4.out _ (P4.out.later (Later.trans A0.out (Hid.out (by assumption)))) (HO.out.later (Later.trans A0.out (Hid.out (by assumption))))).mono ?_; rintro e w2 ⟨rfl, hb⟩; have LW := Lib.hid (Later.trans (show Later W0 _ from (Hid.out (by assumption))) hb); obtain ⟨q0, q1, q2, q3, q4, q5⟩ := C0.out _ LW.out; clear hb))
            all_goals
              go_ret
              exact ⟨by rw [HW.out]; rfl, Later.trans A0.out (Hid.out (by assumption))⟩
          · cases b2
            · have HW : Hid (wrtB p = false) := Lib.hid (by rw [HW.out]; rfl)
              go_wp2_with (first
    | (go_at_call 78; refine (N4.out _).mono ?_; rintro e w2 ⟨rfl, hb⟩; have LW := Lib.hid (Later.trans (show Later W0 _ from (Hid.out (by assumption))) hb); obtain ⟨q0, q1, q2, q3, q4, q5⟩ := C0.out _ LW.out; clear hb)
    | (go_at_call_of 88 a1; refine (A1.out _ (P1.out.later (Later.trans A0.out (Hid.out (by assumption))))).mono ?_; rintro e w2 ⟨rfl, hb⟩; have LW := Lib.hid (Later.trans (show Later W0 _ from (Hid.out (by assumption))) hb); obtain ⟨q0, q1, q2, q3, q4, q5⟩ := C0.out _ LW.out; clear hb)
    | (go_at_call_of 88 a2; refine (A2.out _ (P2.out.later (Later.trans A0.out (Hid.out (by assumption))))).mono ?_; rintro e w2 ⟨rfl, hb⟩; have LW := Lib.hid (Later.trans (show Later W0 _ from (Hid.out (by assumption))) hb); obtain ⟨q0, q1, q2, q3, q4, q5⟩ := C0.out _ LW.out; clear hb)
    | (go_at_call_of 88 a3; refine (A3.out _ (P3.out.later (Later.trans A0.out (Hid.out (by assumption))))).mono ?_; rintro e w2 ⟨rfl, hb⟩; have LW := Lib.hid (Later.trans (show Later W0 _ from (Hid.out (by assumption))) hb); obtain ⟨q0, q1, q2, q3, q4, q5⟩ := C0.out _ LW.out; clear hb)
    | (go_at_call 89; refine (A4.out _ (P4.out.later (Later.trans A0.out (Hid.out (by assumption)))) (HO.out.later (Later.trans A0.out (Hid.out (by assumption))))).mono ?_; rintro e w2 ⟨rfl, hb⟩; have LW := Lib.hid (Later.trans (show Later W0 _ from (Hid.out (by assumption))) hb); obtain ⟨q0, q1, q2, q3, q4, q5⟩ := C0.out _ LW.out; clear hb))
              all_goals
                go_ret
                exact ⟨by rw [HW.out]; rfl, Later.trans A0.out (Hid.out (by assumption))⟩
            · cases b3
              · have HW : Hid (wrtB p = false) := Lib.hid (by rw [HW.out]; rfl)
                go_wp2_with (first
    | (go_at_call 78; refine (N4.out _).mono ?_; rintro e w2 ⟨rfl, hb⟩; have LW := Lib.hid (Later.trans (show Later W0 _ from (Hid.out (by assumption))) hb); obtain ⟨q0, q1, q2, q3, q4, q5⟩ := C0.out _ LW.out; clear hb)
    | (go_at_call_of 88 a1; refine (A1.out _ (P1.out.later (Later.trans A0.out (Hid.out (by assumption))))).mono ?_; rintro e w2 ⟨rfl, hb⟩; have LW := Lib.hid (Later.trans (show Later W0 _ from (Hid.out (by assumption))) hb); obtain ⟨q0, q1, q2, q3, q4, q5⟩ := C0.out _ LW.out; clear hb)
    | (go_at_call_of 88 a2; refine (A2.out _ (P2.out.later (Later.trans A0.out (Hid.out (by assumption))))).mono ?_; rintro e w2 ⟨rfl, hb⟩; have LW := Lib.hid (Later.trans (show Later W0 _ from (Hid.out (by assumption))) hb); obtain ⟨q0, q1, q2, q3, q4, q5⟩ := C0.out _ LW.out; clear hb)
    | (go_at_call_of 88 a3; refine (A3.out _ (P3.out.later (Later.trans A0.out (Hid.out (by assumption))))).mono ?_; rintro e w2 ⟨rfl, hb⟩; have LW := Lib.hid (Later.trans (show Later W0 _ from (Hid.out (by assumption))) hb); obtain ⟨q0, q1, q2, q3, q4, q5⟩ := C0.out _ LW.out; clear hb)
    | (go_at_call 89; refine (A4.out _ (P4.out.later (Later.trans A0.out (Hid.out (by assumption)))) (HO.out.later (Later.trans A0.out (Hid.out (by assumption))))).mono ?_; rintro e w2 ⟨rfl, hb⟩; have LW := Lib.hid (Later.trans (show Later W0 _ from (Hid.out (by assumption))) hb); obtain ⟨q0, q1, q2, q3, q4, q5⟩ := C0.out _ LW.out; clear hb))
                all_goals
                  go_ret
                  exact ⟨by rw [HW.out]; rfl, Later.trans A0.out (Hid.out (by assumption))⟩
              · have HW : Hid (wrtB p = b5) := Lib.hid (by rw [HW.out]; rfl)
                go_wp2_with (first
    | (go_at_call 78; refine (N4.out _).mono ?_; rintro e w2 ⟨rfl, hb⟩; have LW := Lib.hid (Later.trans (show Later W0 _ from (Hid.out (by assumption))) hb); obtain ⟨q0, q1, q2, q3, q4, q5⟩ := C0.out _ LW.out; clear hb)
    | (go_at_call_of 88 a1; refine (A1.out _ (P1.out.later (Later.trans A0.out (Hid.out (by assumption))))).mono ?_; rintro e w2 ⟨rfl, hb⟩; have LW := Lib.hid (Later.trans (show Later W0 _ from (Hid.out (by assumption))) hb); obtain ⟨q0, q1, q2, q3, q4, q5⟩ := C0.out _ LW.out; clear hb)
    | (go_at_call_of 88 a2; refine (A2.out _ (P2.out.later (Later.trans A0.out (Hid.out (by assumption))))).mono ?_; rintro e w2 ⟨rfl, hb⟩; have LW := Lib.hid (Later.trans (show Later W0 _ from (Hid.out (by assumption))) hb); obtain ⟨q0, q1, q2, q3, q4, q5⟩ := C0.out _ LW.out; clear hb)
    | (go_at_call_of 88 a3; refine (A3.out _ (P3.out.later (Later.trans A0.out (Hid.out (by assumption))))).mono ?_; rintro e w2 ⟨rfl, hb⟩; have LW := Lib.hid (Later.trans (show Later W0 _ from (Hid.out (by assumption))) hb); obtain ⟨q0, q1, q2, q3, q4, q5⟩ := C0.out _ LW.out; clear hb)
    | (go_at_call 89; refine (A4.out _ (P4.out.later (Later.trans A0.out (Hid.out (by assumption)))) (HO.out.later (Later.trans A0.out (Hid.out (by assumption))))).mono ?_; rintro e w2 ⟨rfl, hb⟩; have LW := Lib.hid (Later.trans (show Later W0 _ from (Hid.out (by assumption))) hb); obtain ⟨q0, q1, q2, q3, q4, q5⟩ := C0.out _ LW.out; clear hb))
                all_goals
                  go_ret
                  exact ⟨by rw [HW.out]; rfl, Later.trans A0.out (Hid.out (by assumption))⟩
    · have HW : Hid (wrtB p = (true && (true || true) && decide (1 ≤ n1) && decide (1 ≤ n3) && b1 && b2 && b3 && b5)) := Lib.hid (by rw [HW.out]; rfl)
      rcases (show n1 = 0 ∨ (1 ≤ n1 ∧ n3 = 0) ∨ (1 ≤ n1 ∧ 1 ≤ n3) by omega) with h | ⟨h, h'⟩ | ⟨h, h'⟩
      · subst h
        go_wp2_with (first
    | (go_at_call 78; refine (N4.out _).mono ?_; rintro e w2 ⟨rfl, hb⟩; have LW := Lib.hid (Later.trans (show Later W0 _ from (Hid.out (by assumption))) hb); obtain ⟨q0, q1, q2, q3, q4, q5⟩ := C0.out _ LW.out; clear hb)
    | (go_at_call_of 88 a1; refine (A1.out _ (P1.out.later (Later.trans A0.out (Hid.out (by assumption))))).mono ?_; rintro e w2 ⟨rfl, hb⟩; have LW := Lib.hid (Later.trans (show Later W0 _ from (Hid.out (by assumption))) hb); obtain ⟨q0, q1, q2, q3, q4, q5⟩ := C0.out _ LW.out; clear hb)
    | (go_at_call_of 88 a2; refine (A2.out _ (P2.out.later (Later.trans A0.out (Hid.out (by assumption))))).mono ?_; rintro e w2 ⟨rfl, hb⟩; have LW := Lib.hid (Later.trans (show Later W0 _ from (Hid.out (by assumption))) hb); obtain ⟨q0, q1, q2, q3, q4, q5⟩ := C0.out _ LW.out; clear hb)
    | (go_at_call_of 88 a3; refine (A3.out _ (P3.out.later (Later.trans A0.out (Hid.out (by assumption))))).mono ?_; rintro e w2 ⟨rfl, hb⟩; have LW := Lib.hid (Later.trans (show Later W0 _ from (Hid.out (by assumption))) hb); obtain ⟨q0, q1, q2, q3, q4, q5⟩ := C0.out _ LW.out; clear hb)
    | (go_at_call 89; refine (A4.out _ (P4.out.later (Later.trans A0.out (Hid.out (by assumption)))) (HO.out.later (Later.trans A0.out (Hid.out (by assumption))))).mono ?_; rintro e w2 ⟨rfl, hb⟩; have LW := Lib.hid (Later.trans (show Later W0 _ from (Hid.out (by assumption))) hb); obtain ⟨q0, q1, q2, q3, q4, q5⟩ := C0.out _ LW.out; clear hb))
        all_goals
          go_ret
          exact ⟨by rw [HW.out]; rfl, Later.trans A0.out (Hid.out (by assumption))⟩
      · subst h'
        rw [decide_eq_true h] at HW
        have e1 : ((n1 : Int) == 0) = false := by simp; omega
        go_wp2_with (first
    | (go_at_call 78; refine (N4.out _).mono ?_; rintro e w2 ⟨rfl, hb⟩; have LW := Lib.hid (Later.trans (show Later W0 _ from (Hid.out (by assumption))) hb); obtain ⟨q0, q1, q2, q3, q4, q5⟩ := C0.out _ LW.out; clear hb)
    | (go_at_call_of 88 a1; refine (A1.out _ (P1.out.later (Later.trans A0.out (Hid.out (by assumption))))).mono ?_; rintro e w2 ⟨rfl, hb⟩; have LW := Lib.hid (Later.trans (show Later W0 _ from (Hid.out (by assumption))) hb); obtain ⟨q0, q1, q2, q3, q4, q5⟩ := C0.out _ LW.out; clear hb)
    | (go_at_call_of 88 a2; refine (A2.out _ (P2.out.later (Later.trans A0.out (Hid.out (by assumption))))).mono ?_; rintro e w2 ⟨rfl, hb⟩; have LW := Lib.hid (Later.trans (show Later W0 _ from (Hid.out (by assumption))) hb); obtain ⟨q0, q1, q2, q3, q4, q5⟩ := C0.out _ LW.out; clear hb)
    | (go_at_call_of 88 a3; refine (A3.out _ (P3.out.later (Later.trans A0.out (Hid.out (by assumption))))).mono ?_; rintro e w2 ⟨rfl, hb⟩; have LW := Lib.hid (Later.trans (show Later W0 _ from (Hid.out (by assumption))) hb); obtain ⟨q0, q1, q2, q3, q4, q5⟩ := C0.out _ LW.out; clear hb)
    | (go_at_call 89; refine (A4.out _ (P4.out.later (Later.trans A0.out (Hid.out (by assumption)))) (HO.out.later (Later.trans A0.out (Hid.out (by assumption))))).mono ?_; rintro e w2 ⟨rfl, hb⟩; have LW := Lib.hid (Later.trans (show Later W0 _ from (Hid.out (by assumption))) hb); obtain ⟨q0, q1, q2, q3, q4, q5⟩ := C0.out _ LW.out; clear hb))
        all_goals
          go_ret
          exact ⟨by rw [HW.out]; rfl, Later.trans A0.out (Hid.out (by assumption))⟩
      · rw [decide_eq_true h, decide_eq_true h'] at HW
        have e1 : ((n1 : Int) == 0) = false := by simp; omega
        have e3 : ((n3 : Int) == 0) = false := by simp; omega
        clear h h'
        cases b1
        · have HW : Hid (wrtB p = false) := Lib.hid (by rw [HW.out]; rfl)
          go_wp2_with (first
    | (go_at_call 78; refine (N4.out _).mono ?_; rintro e w2 ⟨rfl, hb⟩; have LW := Lib.hid (Later.trans (show Later W0 _ from (Hid.out (by assumption))) hb); obtain ⟨q0, q1, q2, q3, q4, q5⟩ := C0.out _ LW.out; clear hb)
    | (go_at_call_of 88 a1; refine (A1.out _ (P1.out.later (Later.trans A0.out (Hid.out (by assumption))))).mono ?_; rintro e w2 ⟨rfl, hb⟩; have LW := Lib.hid (Later.trans (show Later W0 _ from (Hid.out (by assumption))) hb); obtain ⟨q0, q1, q2, q3, q4, q5⟩ := C0.out _ LW.out; clear hb)
    | (go_at_call_of 88 a2; refine (A2.out _ (P2.out.later (Later.trans A0.out (Hid.out (by assumption))))).mono ?_; rintro e w2 ⟨rfl, hb⟩; have LW := Lib.hid (Later.trans (show Later W0 _ from (Hid.out (by assumption))) hb); obtain ⟨q0, q1, q2, q3, q4, q5⟩ := C0.out _ LW.out; clear hb)
    | (go_at_call_of 88 a3; refine (A3.out _ (P3.out.later (Later.trans A0.out (Hid.out (by assumption))))).mono ?_; rintro e w2 ⟨rfl, hb⟩; have LW := Lib.hid (Later.trans (show Later W0 _ from (Hid.out (by assumption))) hb); obtain ⟨q0, q1, q2, q3, q4, q5⟩ := C0.out _ LW.out; clear hb)
    | (go_at_call 89; refine (A4.out _ (P4.out.later (Later.trans A0.out (Hid.out (by assumption)))) (HO.out.later (Later.trans A0.out (Hid.out (by assumption))))).mono ?_; rintro e w2 ⟨rfl, hb⟩; have LW := Lib.hid (Later.trans (show Later W0 _ from (Hid.out (by assumption))) hb); obtain ⟨q0, q1, q2, q3, q4, q5⟩ := C0.out _ LW.out; clear hb))
          all_goals
            go_ret
            exact ⟨by rw [HW.out]; rfl, Later.trans A0.out (Hid.out (by assumption))⟩
        · cases b2
          · have HW : Hid (wrtB p = false) := Lib.hid (by rw [HW.out]; rfl)
            go_wp2_with (first
    | (go_at_call 78; refine (N4.out _).mono ?_; rintro e w2 ⟨rfl, hb⟩; have LW := Lib.hid (Later.trans (show Later W0 _ from (Hid.out (by assumption))) hb); obtain ⟨q0, q1, q2, q3, q4, q5⟩ := C0.out _ LW.out; clear hb)
    | (go_at_call_of 88 a1; refine (A1.out _ (P1.out.later (Later.trans A0.out (Hid.out (by assumption))))).mono ?_; rintro e w2 ⟨rfl, hb⟩; have LW := Lib.hid (Later.trans (show Later W0 _ from (Hid.out (by assumption))) hb); obtain ⟨q0, q1, q2, q3, q4, q5⟩ := C0.out _ LW.out; clear hb)
    | (go_at_call_of 88 a2; refine (A2.out _ (P2.out.later (Later.trans A0.out (Hid.out (by assumption))))).mono ?_; rintro e w2 ⟨rfl, hb⟩; have LW := Lib.hid (Later.trans (show Later W0 _ from (Hid.out (by assumption))) hb); obtain ⟨q0, q1, q2, q3, q4, q5⟩ := C0.out _ LW.out; clear hb)
    | (go_at_call_of 88 a3; refine (A3.out _ (P3.out.later (Later.trans A0.out (Hid.out (by assumption))))).mono ?_; rintro e w2 ⟨rfl, hb⟩; have LW := Lib.hid (Later.trans (show Later W0 _ from (Hid.out (by assumption))) hb); obtain ⟨q0, q1, q2, q3, q4, q5⟩ := C0.out _ LW.out; clear hb)
    | (go_at_call 89; refine (A4.out _ (P4.out.later (Later.trans A0.out (Hid.out (by assumption)))) (HO.out.later (Later.trans A0.out (Hid.out (by assumption))))).mono ?_; rintro e w2 ⟨rfl, hb⟩; have LW := Lib.hid (Later.trans (show Later W0 _ from (Hid.out (by assumption))) hb); obtain ⟨q0, q1, q2, q3, q4, q5⟩ := C0.out _ LW.out; clear hb))
            all_goals
              go_ret
              exact ⟨by rw [HW.out]; rfl, Later.trans A0.out (Hid.out (by assumption))⟩
          · cases b3
            · have HW : Hid (wrtB p = false) := Lib.hid (by rw [HW.out]; rfl)
              go_wp2_with (first
    | (go_at_call 78; refine (N4.out _).mono ?_; rintro e w2 ⟨rfl, hb⟩; have LW := Lib.hid (Later.trans (show Later W0 _ from (Hid.out (by assumption))) hb); obtain ⟨q0, q1, q2, q3, q4, q5⟩ := C0.out _ LW.out; clear hb)
    | (go_at_call_of 88 a1; refine (A1.out _ (P1.out.later (Later.trans A0.out (Hid.out (by assumption))))).mono ?_; rintro e w2 ⟨rfl, hb⟩; have LW := Lib.hid (Later.trans (show Later W0 _ from (Hid.out (by assumption))) hb); obtain ⟨q0, q1, q2, q3, q4, q5⟩ := C0.out _ LW.out; clear hb)
    | (go_at_call_of 88 a2; refine (A2.out _ (P2.out.later (Later.trans A0.out (Hid.out (by assumption))))).mono ?_; rintro e w2 ⟨rfl, hb⟩; have LW := Lib.hid (Later.trans (show Later W0 _ from (Hid.out (by assumption))) hb); obtain ⟨q0, q1, q2, q3, q4, q5⟩ := C0.out _ LW.out; clear hb)
    | (go_at_call_of 88 a3; refine (A3.out _ (P3.out.later (Later.trans A0.out (Hid.out (by assumption))))).mono ?_; rintro e w2 ⟨rfl, hb⟩; have LW := Lib.hid (Later.trans (show Later W0 _ from (Hid.out (by assumption))) hb); obtain ⟨q0, q1, q2, q3, q4, q5⟩ := C0.out _ LW.out; clear hb)
    | (go_at_call 89; refine (A4.out _ (P4.out.later (Later.trans A0.out (Hid.out (by assumption)))) (HO.out.later (Later.trans A0.out (Hid.out (by assumption))))).mono ?_; rintro e w2 ⟨rfl, hb⟩; have LW := Lib.hid (Later.trans (show Later W0 _ from (Hid.out (by assumption))) hb); obtain ⟨q0, q1, q2, q3, q4, q5⟩ := C0.out _ LW.out; clear hb))
              all_goals
                go_ret
                exact ⟨by rw [HW.out]; rfl, Later.trans A0.out (Hid.out (by assumption))⟩
            · have HW : Hid (wrtB p = b5) := Lib.hid (by rw [HW.out]; rfl)
              go_wp2_with (first
    | (go_at_call 78; refine (N4.out _).mono ?_; rintro e w2 ⟨rfl, hb⟩; have LW := Lib.hid (Later.trans (show Later W0 _ from (Hid.out (by assumption))) hb); obtain ⟨q0, q1, q2, q3, q4, q5⟩ := C0.out _ LW.out; clear hb)
    | (go_at_call_of 88 a1; refine (A1.out _ (P1.out.later (Later.trans A0.out (Hid.out (by assumption))))).mono ?_; rintro e w2 ⟨rfl, hb⟩; have LW := Lib.hid (Later.trans (show Later W0 _ from (Hid.out (by assumption))) hb); obtain ⟨q0, q1, q2, q3, q4, q5⟩ := C0.out _ LW.out; clear hb)
    | (go_at_call_of 88 a2; refine (A2.out _ (P2.out.later (Later.trans A0.out (Hid.out (by assumption))))).mono ?_; rintro e w2 ⟨rfl, hb⟩; have LW := Lib.hid (Later.trans (show Later W0 _ from (Hid.out (by assumption))) hb); obtain ⟨q0, q1, q2, q3, q4, q5⟩ := C0.out _ LW.out; clear hb)
    | (go_at_call_of 88 a3; refine (A3.out _ (P3.out.later (Later.trans A0.out (Hid.out (by assumption))))).mono ?_; rintro e w2 ⟨rfl, hb⟩; have LW := Lib.hid (Later.trans (show Later W0 _ from (Hid.out (by assumption))) hb); obtain ⟨q0, q1, q2, q3, q4, q5⟩ := C0.out _ LW.out; clear hb)
    | (go_at_call 89; refine (A4.out _ (P4.out.later (Later.trans A0.out (Hid.out (by assumption)))) (HO.out.later (Later.trans A0.out (Hid.out (by assumption))))).mono ?_; rintro e w2 ⟨rfl, hb⟩; have LW := Lib.hid (Later.trans (show Later W0 _ from (Hid.out (by assumption))) hb); obtain ⟨q0, q1, q2, q3, q4, q5⟩ := C0.out _ LW.out; clear hb))
              all_goals
                go_ret
                exact ⟨by rw [HW.out]; rfl, Later.trans A0.out (Hid.out (by assumption))⟩
end Go.Proofs.YtokipobjpinhmaaDoor
namespace Go.Proofs.YtokipobjpinhmaaDoor
open Go.RowKit Go.Shelf
set_option maxHeartbeats 4000000
set_option maxRecDepth 100000
set_option linter.unusedVariables false
set_option linter.unusedSimpArgs false
theorem wrtB_model (p : Prg) : wrtB p = (nmB p.nm && (nmsB p.ins && decide (1 ≤ p.ins.length)) && (nmsB p.vrs && decide (0 ≤ p.vrs.length)) && (nmsB p.outs && decide (1 ≤ p.outs.length)) && (decide (p.grd = []) || nmB p.grd) && lnsB p.lns) := by
  unfold wrtB
  rw [decide_eq_true (Nat.zero_le p.vrs.length)]
  cases nmB p.nm <;> cases nmsB p.ins <;> cases decide (1 ≤ p.ins.length) <;> cases nmsB p.vrs <;> cases nmsB p.outs <;> cases decide (1 ≤ p.outs.length) <;> cases decide (p.grd = []) <;> cases nmB p.grd <;> cases lnsB p.lns <;> rfl
theorem s_IsWritten (v : Value) (p : Prg) (w : World) (hp : PgV w v p) (hl : p.lns.length ≤ 1000000000) : Calls Tryd.prog 51 #[v] w fun e w' => e = .returned (.bool (wrtB p)) ∧ Later w w' := by
  obtain ⟨a1, c1, a2, c2, a3, c3, a4, c4, rfl, h1, h2, h3, h4, h5, h6⟩ := hp
  have P1 := Lib.hid h1; have P2 := Lib.hid h2; have P3 := Lib.hid h3; have P4 := Lib.hid h4
  have N0 : Hid (∀ W, Calls Tryd.prog 74 #[.string (tx p.nm)] W fun e w' => e = .returned (.bool (nmB p.nm)) ∧ Later W w') := Lib.hid (fun W => s_Name (tx p.nm) W h5)
  have N4 : Hid (∀ W, Calls Tryd.prog 74 #[.string (tx p.grd)] W fun e w' => e = .returned (.bool (nmB p.grd)) ∧ Later W w') := Lib.hid (fun W => s_Name (tx p.grd) W h6)
  have A1 := Lib.hid (fun W h => s_Names a1 p.ins.length c1 p.ins 1 W (by omega) h)
  have A2 := Lib.hid (fun W h => s_Names a2 p.vrs.length c2 p.vrs 0 W (by omega) h)
  have A3 := Lib.hid (fun W h => s_Names a3 p.outs.length c3 p.outs 1 W (by omega) h)
  have EG : ((tx p.grd).toList.isEmpty) = decide (p.grd = []) := by
    rw [Lib.toList_data]
    show p.grd.isEmpty = _
    cases p.grd <;> simp
  have HW : Hid (wrtB p = (nmB p.nm && (nmsB p.ins && decide (1 ≤ p.ins.length)) && (nmsB p.vrs && decide (0 ≤ p.vrs.length)) && (nmsB p.outs && decide (1 ≤ p.outs.length)) && (decide (p.grd = []) || nmB p.grd) && lnsB p.lns)) := Lib.hid (wrtB_model p)
  have hn4 := P4.out.2.1
  obtain ⟨s0, hs0⟩ : ∃ q, q = tx p.nm := ⟨_, rfl⟩
  obtain ⟨s4, hs4⟩ : ∃ q, q = tx p.grd := ⟨_, rfl⟩
  obtain ⟨n1, hn1q⟩ : ∃ q, q = p.ins.length := ⟨_, rfl⟩
  obtain ⟨n2, hn2q⟩ : ∃ q, q = p.vrs.length := ⟨_, rfl⟩
  obtain ⟨n3, hn3q⟩ : ∃ q, q = p.outs.length := ⟨_, rfl⟩
  obtain ⟨n4, hn4q⟩ : ∃ q, q = p.lns.length := ⟨_, rfl⟩
  obtain ⟨M, hM⟩ : ∃ q, q = p.lns := ⟨_, rfl⟩
  obtain ⟨b0, hb0⟩ : ∃ q, q = nmB p.nm := ⟨_, rfl⟩
  obtain ⟨b4, hb4⟩ : ∃ q, q = nmB p.grd := ⟨_, rfl⟩
  obtain ⟨g0, hg0⟩ : ∃ q, q = decide (p.grd = []) := ⟨_, rfl⟩
  obtain ⟨d1, hd1⟩ : ∃ q, q = (nmsB p.ins && decide (1 ≤ p.ins.length)) := ⟨_, rfl⟩
  obtain ⟨d2, hd2⟩ : ∃ q, q = (nmsB p.vrs && decide (0 ≤ p.vrs.length)) := ⟨_, rfl⟩
  obtain ⟨d3, hd3⟩ : ∃ q, q = (nmsB p.outs && decide (1 ≤ p.outs.length)) := ⟨_, rfl⟩
  rw [← hd1] at A1 HW; rw [← hd2] at A2 HW; rw [← hd3] at A3 HW
  rw [← hs0] at N0; rw [← hs4] at N4 EG; rw [← hb0] at N0 HW; rw [← hb4] at N4 HW; rw [← hg0] at EG HW
  rw [← hn1q] at A1 P1; rw [← hn2q] at A2 P2; rw [← hn3q] at A3 P3; rw [← hn4q] at P4 hn4 hl; rw [← hM] at P4 HW
  rw [← hs0, ← hs4, ← hn1q, ← hn2q, ← hn3q, ← hn4q]
  have HL := Lib.hid P4.out.1
  clear hs0 hs4 hn1q hn2q hn3q hn4q hM hb0 hb4 hg0 hd1 hd2 hd3 h1 h2 h3 h4 h5 h6
  have q0 : (w.alloc (.cells #[.string s0, .slice a1 n1 c1, .slice a2 n2 c2, .slice a3 n3 c3, .string s4, .slice a4 n4 c4] 27)).cell? ⟨w.heap.size, 0, none⟩ = some (.string s0) := by rw [cell_of_row _ _ 0 _ _ (0, 0) (heap_alloc_new w _)]; rfl
  have q1 : (w.alloc (.cells #[.string s0, .slice a1 n1 c1, .slice a2 n2 c2, .slice a3 n3 c3, .string s4, .slice a4 n4 c4] 27)).cell? ⟨w.heap.size, 1, none⟩ = some (.slice a1 n1 c1) := by rw [cell_of_row _ _ 1 _ _ (0, 0) (heap_alloc_new w _)]; rfl
  have q2 : (w.alloc (.cells #[.string s0, .slice a1 n1 c1, .slice a2 n2 c2, .slice a3 n3 c3, .string s4, .slice a4 n4 c4] 27)).cell? ⟨w.heap.size, 2, none⟩ = some (.slice a2 n2 c2) := by rw [cell_of_row _ _ 2 _ _ (0, 0) (heap_alloc_new w _)]; rfl
  have q3 : (w.alloc (.cells #[.string s0, .slice a1 n1 c1, .slice a2 n2 c2, .slice a3 n3 c3, .string s4, .slice a4 n4 c4] 27)).cell? ⟨w.heap.size, 3, none⟩ = some (.slice a3 n3 c3) := by rw [cell_of_row _ _ 3 _ _ (0, 0) (heap_alloc_new w _)]; rfl
  have q4 : (w.alloc (.cells #[.string s0, .slice a1 n1 c1, .slice a2 n2 c2, .slice a3 n3 c3, .string s4, .slice a4 n4 c4] 27)).cell? ⟨w.heap.size, 4, none⟩ = some (.string s4) := by rw [cell_of_row _ _ 4 _ _ (0, 0) (heap_alloc_new w _)]; rfl
  have q5 : (w.alloc (.cells #[.string s0, .slice a1 n1 c1, .slice a2 n2 c2, .slice a3 n3 c3, .string s4, .slice a4 n4 c4] 27)).cell? ⟨w.heap.size, 5, none⟩ = some (.slice a4 n4 c4) := by rw [cell_of_row _ _ 5 _ _ (0, 0) (heap_alloc_new w _)]; rfl
  have hW0 : w.heap.size < (w.alloc (.cells #[.string s0, .slice a1 n1 c1, .slice a2 n2 c2, .slice a3 n3 c3, .string s4, .slice a4 n4 c4] 27)).heap.size := by rw [World.size_alloc]; exact Nat.lt_succ_self _
  have C0 : Hid (∀ W', Later (w.alloc (.cells #[.string s0, .slice a1 n1 c1, .slice a2 n2 c2, .slice a3 n3 c3, .string s4, .slice a4 n4 c4] 27)) W' → W'.cell? ⟨w.heap.size, 0, none⟩ = some (.string s0) ∧ W'.cell? ⟨w.heap.size, 1, none⟩ = some (.slice a1 n1 c1) ∧ W'.cell? ⟨w.heap.size, 2, none⟩ = some (.slice a2 n2 c2) ∧ W'.cell? ⟨w.heap.size, 3, none⟩ = some (.slice a3 n3 c3) ∧ W'.cell? ⟨w.heap.size, 4, none⟩ = some (.string s4) ∧ W'.cell? ⟨w.heap.size, 5, none⟩ = some (.slice a4 n4 c4)) := Lib.hid (fun W' q => ⟨by rw [q.cell (p := ⟨w.heap.size, 0, none⟩) hW0]; exact q0, by rw [q.cell (p := ⟨w.heap.size, 1, none⟩) hW0]; exact q1, by rw [q.cell (p := ⟨w.heap.size, 2, none⟩) hW0]; exact q2, by rw [q.cell (p := ⟨w.heap.size, 3, none⟩) hW0]; exact q3, by rw [q.cell (p := ⟨w.heap.size, 4, none⟩) hW0]; exact q4, by rw [q.cell (p := ⟨w.heap.size, 5, none⟩) hW0]; exact q5⟩)
  have A0 : Hid (Later w (w.alloc (.cells #[.string s0, .slice a1 n1 c1, .slice a2 n2 c2, .slice a3 n3 c3, .string s4, .slice a4 n4 c4] 27))) := Lib.hid ((Later.refl _).alloc _)
  clear hW0
  go_enter Tryd.func51, Tryd.ntmps51
  go_wp2_with fail
  generalize w.alloc (.cells #[.string s0, .slice a1 n1 c1, .slice a2 n2 c2, .slice a3 n3 c3, .string s4, .slice a4 n4 c4] 27) = W0 at C0 A0 q0 q1 q2 q3 q4 q5 ⊢
  clear q0 q1 q2 q3 q4 q5
  refine (N0.out _).mono ?_
  rintro e w1 ⟨rfl, hb⟩
  have L1 := Lib.hid (show Later W0 w1 from hb)
  obtain ⟨q0, q1, q2, q3, q4, q5⟩ := C0.out _ hb
  clear hb
  cases b0
  · have HWF : Hid (wrtB p = false) := Lib.hid (by rw [HW.out]; rfl)
    go_wp2_with fail
    all_goals
      go_ret
      exact ⟨by rw [HWF.out]; rfl, Later.trans A0.out L1.out⟩
  cases d1
  · have HWF : Hid (wrtB p = false) := Lib.hid (by rw [HW.out]; rfl)
    go_wp2_with (first
    | (go_at_call_of 74 s4; refine (N4.out _).mono ?_; rintro e w2 ⟨rfl, hb⟩; have LW := Lib.hid (Later.trans (show Later W0 _ from (Hid.out (by assumption))) hb); obtain ⟨q0, q1, q2, q3, q4, q5⟩ := C0.out _ LW.out; clear hb)
    | (go_at_call_of 96 a1; refine (A1.out _ (P1.out.later (Later.trans A0.out (Hid.out (by assumption))))).mono ?_; rintro e w2 ⟨rfl, hb⟩; have LW := Lib.hid (Later.trans (show Later W0 _ from (Hid.out (by assumption))) hb); obtain ⟨q0, q1, q2, q3, q4, q5⟩ := C0.out _ LW.out; clear hb)
    | (go_at_call_of 96 a2; refine (A2.out _ (P2.out.later (Later.trans A0.out (Hid.out (by assumption))))).mono ?_; rintro e w2 ⟨rfl, hb⟩; have LW := Lib.hid (Later.trans (show Later W0 _ from (Hid.out (by assumption))) hb); obtain ⟨q0, q1, q2, q3, q4, q5⟩ := C0.out _ LW.out; clear hb)
    | (go_at_call_of 96 a3; refine (A3.out _ (P3.out.later (Later.trans A0.out (Hid.out (by assumption))))).mono ?_; rintro e w2 ⟨rfl, hb⟩; have LW := Lib.hid (Later.trans (show Later W0 _ from (Hid.out (by assumption))) hb); obtain ⟨q0, q1, q2, q3, q4, q5⟩ := C0.out _ LW.out; clear hb))
    all_goals
      go_ret
      exact ⟨by rw [HWF.out]; rfl, Later.trans A0.out (Hid.out (by assumption))⟩
  cases d2
  · have HWF : Hid (wrtB p = false) := Lib.hid (by rw [HW.out]; rfl)
    go_wp2_with (first
    | (go_at_call_of 74 s4; refine (N4.out _).mono ?_; rintro e w2 ⟨rfl, hb⟩; have LW := Lib.hid (Later.trans (show Later W0 _ from (Hid.out (by assumption))) hb); obtain ⟨q0, q1, q2, q3, q4, q5⟩ := C0.out _ LW.out; clear hb)
    | (go_at_call_of 96 a1; refine (A1.out _ (P1.out.later (Later.trans A0.out (Hid.out (by assumption))))).mono ?_; rintro e w2 ⟨rfl, hb⟩; have LW := Lib.hid (Later.trans (show Later W0 _ from (Hid.out (by assumption))) hb); obtain ⟨q0, q1, q2, q3, q4, q5⟩ := C0.out _ LW.out; clear hb)
    | (go_at_call_of 96 a2; refine (A2.out _ (P2.out.later (Later.trans A0.out (Hid.out (by assumption))))).mono ?_; rintro e w2 ⟨rfl, hb⟩; have LW := Lib.hid (Later.trans (show Later W0 _ from (Hid.out (by assumption))) hb); obtain ⟨q0, q1, q2, q3, q4, q5⟩ := C0.out _ LW.out; clear hb)
    | (go_at_call_of 96 a3; refine (A3.out _ (P3.out.later (Later.trans A0.out (Hid.out (by assumption))))).mono ?_; rintro e w2 ⟨rfl, hb⟩; have LW := Lib.hid (Later.trans (show Later W0 _ from (Hid.out (by assumption))) hb); obtain ⟨q0, q1, q2, q3, q4, q5⟩ := C0.out _ LW.out; clear hb))
    all_goals
      go_ret
      exact ⟨by rw [HWF.out]; rfl, Later.trans A0.out (Hid.out (by assumption))⟩
  cases d3
  · have HWF : Hid (wrtB p = false) := Lib.hid (by rw [HW.out]; rfl)
    go_wp2_with (first
    | (go_at_call_of 74 s4; refine (N4.out _).mono ?_; rintro e w2 ⟨rfl, hb⟩; have LW := Lib.hid (Later.trans (show Later W0 _ from (Hid.out (by assumption))) hb); obtain ⟨q0, q1, q2, q3, q4, q5⟩ := C0.out _ LW.out; clear hb)
    | (go_at_call_of 96 a1; refine (A1.out _ (P1.out.later (Later.trans A0.out (Hid.out (by assumption))))).mono ?_; rintro e w2 ⟨rfl, hb⟩; have LW := Lib.hid (Later.trans (show Later W0 _ from (Hid.out (by assumption))) hb); obtain ⟨q0, q1, q2, q3, q4, q5⟩ := C0.out _ LW.out; clear hb)
    | (go_at_call_of 96 a2; refine (A2.out _ (P2.out.later (Later.trans A0.out (Hid.out (by assumption))))).mono ?_; rintro e w2 ⟨rfl, hb⟩; have LW := Lib.hid (Later.trans (show Later W0 _ from (Hid.out (by assumption))) hb); obtain ⟨q0, q1, q2, q3, q4, q5⟩ := C0.out _ LW.out; clear hb)
    | (go_at_call_of 96 a3; refine (A3.out _ (P3.out.later (Later.trans A0.out (Hid.out (by assumption))))).mono ?_; rintro e w2 ⟨rfl, hb⟩; have LW := Lib.hid (Later.trans (show Later W0 _ from (Hid.out (by assumption))) hb); obtain ⟨q0, q1, q2, q3, q4, q5⟩ := C0.out _ LW.out; clear hb))
    all_goals
      go_ret
      exact ⟨by rw [HWF.out]; rfl, Later.trans A0.out (Hid.out (by assumption))⟩
  cases g0
  · cases b4
    · have HWF : Hid (wrtB p = false) := Lib.hid (by rw [HW.out]; rfl)
      go_wp2_with (first
    | (go_at_call_of 74 s4; refine (N4.out _).mono ?_; rintro e w2 ⟨rfl, hb⟩; have LW := Lib.hid (Later.trans (show Later W0 _ from (Hid.out (by assumption))) hb); obtain ⟨q0, q1, q2, q3, q4, q5⟩ := C0.out _ LW.out; clear hb)
    | (go_at_call_of 96 a1; refine (A1.out _ (P1.out.later (Later.trans A0.out (Hid.out (by assumption))))).mono ?_; rintro e w2 ⟨rfl, hb⟩; have LW := Lib.hid (Later.trans (show Later W0 _ from (Hid.out (by assumption))) hb); obtain ⟨q0, q1, q2, q3, q4, q5⟩ := C0.out _ LW.out; clear hb)
    | (go_at_call_of 96 a2; refine (A2.out _ (P2.out.later (Later.trans A0.out (Hid.out (by assumption))))).mono ?_; rintro e w2 ⟨rfl, hb⟩; have LW := Lib.hid (Later.trans (show Later W0 _ from (Hid.out (by assumption))) hb); obtain ⟨q0, q1, q2, q3, q4, q5⟩ := C0.out _ LW.out; clear hb)
    | (go_at_call_of 96 a3; refine (A3.out _ (P3.out.later (Later.trans A0.out (Hid.out (by assumption))))).mono ?_; rintro e w2 ⟨rfl, hb⟩; have LW := Lib.hid (Later.trans (show Later W0 _ from (Hid.out (by assumption))) hb); obtain ⟨q0, q1, q2, q3, q4, q5⟩ := C0.out _ LW.out; clear hb))
      all_goals
        go_ret
        exact ⟨by rw [HWF.out]; rfl, Later.trans A0.out (Hid.out (by assumption))⟩
    · have HW : Hid (wrtB p = lnsB M) := Lib.hid (by rw [HW.out]; rfl)
      go_wp2_with (first
          | (go_at_call_of 74 s4; refine (N4.out _).mono ?_; rintro e w2 ⟨rfl, hb⟩; have LW := Lib.hid (Later.trans (show Later W0 _ from (Hid.out (by assumption))) hb); obtain ⟨q0, q1, q2, q3, q4, q5⟩ := C0.out _ LW.out; clear hb)
          | (go_at_call_of 96 a1; refine (A1.out _ (P1.out.later (Later.trans A0.out (Hid.out (by assumption))))).mono ?_; rintro e w2 ⟨rfl, hb⟩; have LW := Lib.hid (Later.trans (show Later W0 _ from (Hid.out (by assumption))) hb); obtain ⟨q0, q1, q2, q3, q4, q5⟩ := C0.out _ LW.out; clear hb)
          | (go_at_call_of 96 a2; refine (A2.out _ (P2.out.later (Later.trans A0.out (Hid.out (by assumption))))).mono ?_; rintro e w2 ⟨rfl, hb⟩; have LW := Lib.hid (Later.trans (show Later W0 _ from (Hid.out (by assumption))) hb); obtain ⟨q0, q1, q2, q3, q4, q5⟩ := C0.out _ LW.out; clear hb)
          | (go_at_call_of 96 a3; refine (A3.out _ (P3.out.later (Later.trans A0.out (Hid.out (by assumption))))).mono ?_; rintro e w2 ⟨rfl, hb⟩; have LW := Lib.hid (Later.trans (show Later W0 _ from (Hid.out (by assumption))) hb); obtain ⟨q0, q1, q2, q3, q4, q5⟩ := C0.out _ LW.out; clear hb))
      clear q0 q1 q2 q3 q4 q5
      go_loopw [3] (fun i wr => ∃ k : Nat, k ≤ n4 ∧ i = .int .i64 k ∧ Later W0 wr ∧ Hid (∀ j, j < k → lnOk M j = true)) (fun i _ => n4 - (intOf i).toNat)
      case atStart => exact ⟨0, by omega, rfl, (Hid.out (by assumption)), Lib.hid (by intro j h; omega)⟩
      case round =>
        obtain ⟨k, hk, rfl, hb, HI⟩ := hrel
        have B3 := Lib.hid hb
        obtain ⟨q0, q1, q2, q3, q4, q5⟩ := C0.out _ hb
        by_cases hlt : k < n4
        · have PL := Lib.hid (P4.out.later (Later.trans A0.out hb))
          obtain ⟨b, off, ta, tc, rfl, z0, z1, z2⟩ := PL.out.2.2.1 k hlt
          have hle := (PL.out.rng k hlt).1
          have hle2 := (PL.out.rng k hlt).2
          have HT2 := Lib.hid z2
          have IN : Hid (∀ W', Calls Tryd.prog 74 #[.string (tx (ltx M k))] W' fun e w' => e = .returned (.bool (nmB (ltx M k))) ∧ Later W' w') := Lib.hid (fun W' => s_Name (tx (ltx M k)) W' hle)
          have IE := Lib.hid (fun W' h1 => s_IsExpression ta (lrx M k).length tc (lrx M k) W' h1 (by omega))
          have HK : Hid (lnOk M k = (nmB (ltx M k) && exB (lrx M k))) := Lib.hid rfl
          obtain ⟨y, hy⟩ : ∃ y, y = tx (ltx M k) := ⟨_, rfl⟩
          obtain ⟨q, hq⟩ : ∃ y, y = (lrx M k).length := ⟨_, rfl⟩
          obtain ⟨t1, ht1⟩ : ∃ b, b = nmB (ltx M k) := ⟨_, rfl⟩
          obtain ⟨t2, ht2⟩ : ∃ b, b = exB (lrx M k) := ⟨_, rfl⟩
          rw [← hy] at z0 IN; rw [← hq] at z1 IE HT2
          rw [← ht1] at IN HK; rw [← ht2] at IE HK
          have Z0 := Lib.hid z0; have Z1 := Lib.hid z1
          have KL : Hid (∀ W', Later wr W' → W'.cell? ⟨b, off + k * 2, none⟩ = some (.string y) ∧ W'.cell? ⟨b, off + k * 2 + 1, none⟩ = some (.slice ta q tc)) := Lib.hid (fun W' h => ⟨by rw [h.cell (p := ⟨b, off + k * 2, none⟩) (cell_lt Z0.out)]; exact Z0.out, by rw [h.cell (p := ⟨b, off + k * 2 + 1, none⟩) (cell_lt Z0.out)]; exact Z1.out⟩)
          clear hy hq ht1 ht2 hb hle hle2 z2
          cases t1
          · have HB : Hid (lnsB M = false) := Lib.hid (by unfold lnsB; rw [allL_bad M k (by rw [HL.out]; exact hlt) (by rw [HK.out]; rfl)]; rfl)
            go_wp2_with (go_at_call 74; refine (IN.out _).mono ?_; rintro e w3 ⟨rfl, hb⟩; have L3 := Lib.hid (Later.trans B3.out hb); obtain ⟨q0, q1, q2, q3, q4, q5⟩ := C0.out _ L3.out; obtain ⟨z0, z1⟩ := KL.out _ hb; clear hb)
            all_goals
              go_ret
              exact ⟨by rw [HW.out, HB.out]; rfl, Later.trans A0.out L3.out⟩
          · cases t2
            · have HB : Hid (lnsB M = false) := Lib.hid (by unfold lnsB; rw [allL_bad M k (by rw [HL.out]; exact hlt) (by rw [HK.out]; rfl)]; rfl)
              go_wp2_with (first | (go_at_call 74; refine (IN.out _).mono ?_; rintro e w3 ⟨rfl, hb⟩; have LR := Lib.hid hb; have L3 := Lib.hid (Later.trans B3.out hb); obtain ⟨q0, q1, q2, q3, q4, q5⟩ := C0.out _ L3.out; obtain ⟨z0, z1⟩ := KL.out _ hb; clear hb) | (go_at_call 97; refine (IE.out _ (HT2.out.later LR.out)).mono ?_; rintro e w4 ⟨rfl, hb⟩; have L4 := Lib.hid (Later.trans L3.out hb); clear hb))
              all_goals
                go_ret
                exact ⟨by rw [HW.out, HB.out]; rfl, Later.trans A0.out L4.out⟩
            · go_wp2_with (first | (go_at_call 74; refine (IN.out _).mono ?_; rintro e w3 ⟨rfl, hb⟩; have LR := Lib.hid hb; have L3 := Lib.hid (Later.trans B3.out hb); obtain ⟨q0, q1, q2, q3, q4, q5⟩ := C0.out _ L3.out; obtain ⟨z0, z1⟩ := KL.out _ hb; clear hb) | (go_at_call 97; refine (IE.out _ (HT2.out.later LR.out)).mono ?_; rintro e w4 ⟨rfl, hb⟩; have L4 := Lib.hid (Later.trans L3.out hb); clear hb))
              all_goals
                go_roundw
                case rel =>
                  refine ⟨k + 1, by omega, by go_num, L4.out, Lib.hid ?_⟩
                  intro q hq
                  rcases Nat.lt_or_ge q k with h1 | h1
                  · exact HI.out q h1
                  · obtain rfl : q = k := by omega
                    exact HK.out
                case measure => simp [intOf]; omega
        · obtain rfl : k = n4 := by omega
          have HF : Hid (lnsB M = (decide ((1 : Int) ≤ (k : Int)) && decide ((k : Int) ≤ 40))) := Lib.hid (by
            unfold lnsB; rw [allL_all M (by rw [HL.out]; exact HI.out), HL.out, Bool.true_and]
            congr 1
            · exact decide_eq_decide.2 (by omega)
            · exact decide_eq_decide.2 (by omega))
          have IR := Lib.hid (fun W' => s_InR (k : Int) 1 40 W' ⟨by omega, by omega⟩)
          obtain ⟨t, ht⟩ : ∃ t, t = (decide ((1 : Int) ≤ (k : Int)) && decide ((k : Int) ≤ 40)) := ⟨_, rfl⟩
          rw [← ht] at HF IR
          clear hb ht
          go_wp2_with (go_at_call 98; refine (IR.out _).mono ?_; rintro e w' ⟨rfl, rfl⟩)
          go_ret
          exact ⟨by rw [HW.out, HF.out]; rfl, Later.trans A0.out B3.out⟩
  · have HW : Hid (wrtB p = lnsB M) := Lib.hid (by rw [HW.out]; rfl)
    go_wp2_with (first
        | (go_at_call_of 74 s4; refine (N4.out _).mono ?_; rintro e w2 ⟨rfl, hb⟩; have LW := Lib.hid (Later.trans (show Later W0 _ from (Hid.out (by assumption))) hb); obtain ⟨q0, q1, q2, q3, q4, q5⟩ := C0.out _ LW.out; clear hb)
        | (go_at_call_of 96 a1; refine (A1.out _ (P1.out.later (Later.trans A0.out (Hid.out (by assumption))))).mono ?_; rintro e w2 ⟨rfl, hb⟩; have LW := Lib.hid (Later.trans (show Later W0 _ from (Hid.out (by assumption))) hb); obtain ⟨q0, q1, q2, q3, q4, q5⟩ := C0.out _ LW.out; clear hb)
        | (go_at_call_of 96 a2; refine (A2.out _ (P2.out.later (Later.trans A0.out (Hid.out (by assumption))))).mono ?_; rintro e w2 ⟨rfl, hb⟩; have LW := Lib.hid (Later.trans (show Later W0 _ from (Hid.out (by assumption))) hb); obtain ⟨q0, q1, q2, q3, q4, q5⟩ := C0.out _ LW.out; clear hb)
        | (go_at_call_of 96 a3; refine (A3.out _ (P3.out.later (Later.trans A0.out (Hid.out (by assumption))))).mono ?_; rintro e w2 ⟨rfl, hb⟩; have LW := Lib.hid (Later.trans (show Later W0 _ from (Hid.out (by assumption))) hb); obtain ⟨q0, q1, q2, q3, q4, q5⟩ := C0.out _ LW.out; clear hb))
    clear q0 q1 q2 q3 q4 q5
    go_loopw [3] (fun i wr => ∃ k : Nat, k ≤ n4 ∧ i = .int .i64 k ∧ Later W0 wr ∧ Hid (∀ j, j < k → lnOk M j = true)) (fun i _ => n4 - (intOf i).toNat)
    case atStart => exact ⟨0, by omega, rfl, (Hid.out (by assumption)), Lib.hid (by intro j h; omega)⟩
    case round =>
      obtain ⟨k, hk, rfl, hb, HI⟩ := hrel
      have B3 := Lib.hid hb
      obtain ⟨q0, q1, q2, q3, q4, q5⟩ := C0.out _ hb
      by_cases hlt : k < n4
      · have PL := Lib.hid (P4.out.later (Later.trans A0.out hb))
        obtain ⟨b, off, ta, tc, rfl, z0, z1, z2⟩ := PL.out.2.2.1 k hlt
        have hle := (PL.out.rng k hlt).1
        have hle2 := (PL.out.rng k hlt).2
        have HT2 := Lib.hid z2
        have IN : Hid (∀ W', Calls Tryd.prog 74 #[.string (tx (ltx M k))] W' fun e w' => e = .returned (.bool (nmB (ltx M k))) ∧ Later W' w') := Lib.hid (fun W' => s_Name (tx (ltx M k)) W' hle)
        have IE := Lib.hid (fun W' h1 => s_IsExpression ta (lrx M k).length tc (lrx M k) W' h1 (by omega))
        have HK : Hid (lnOk M k = (nmB (ltx M k) && exB (lrx M k))) := Lib.hid rfl
        obtain ⟨y, hy⟩ : ∃ y, y = tx (ltx M k) := ⟨_, rfl⟩
        obtain ⟨q, hq⟩ : ∃ y, y = (lrx M k).length := ⟨_, rfl⟩
        obtain ⟨t1, ht1⟩ : ∃ b, b = nmB (ltx M k) := ⟨_, rfl⟩
        obtain ⟨t2, ht2⟩ : ∃ b, b = exB (lrx M k) := ⟨_, rfl⟩
        rw [← hy] at z0 IN; rw [← hq] at z1 IE HT2
        rw [← ht1] at IN HK; rw [← ht2] at IE HK
        have Z0 := Lib.hid z0; have Z1 := Lib.hid z1
        have KL : Hid (∀ W', Later wr W' → W'.cell? ⟨b, off + k * 2, none⟩ = some (.string y) ∧ W'.cell? ⟨b, off + k * 2 + 1, none⟩ = some (.slice ta q tc)) := Lib.hid (fun W' h => ⟨by rw [h.cell (p := ⟨b, off + k * 2, none⟩) (cell_lt Z0.out)]; exact Z0.out, by rw [h.cell (p := ⟨b, off + k * 2 + 1, none⟩) (cell_lt Z0.out)]; exact Z1.out⟩)
        clear hy hq ht1 ht2 hb hle hle2 z2
        cases t1
        · have HB : Hid (lnsB M = false) := Lib.hid (by unfold lnsB; rw [allL_bad M k (by rw [HL.out]; exact hlt) (by rw [HK.out]; rfl)]; rfl)
          go_wp2_with (go_at_call 74; refine (IN.out _).mono ?_; rintro e w3 ⟨rfl, hb⟩; have L3 := Lib.hid (Later.trans B3.out hb); obtain ⟨q0, q1, q2, q3, q4, q5⟩ := C0.out _ L3.out; obtain ⟨z0, z1⟩ := KL.out _ hb; clear hb)
          all_goals
            go_ret
            exact ⟨by rw [HW.out, HB.out]; rfl, Later.trans A0.out L3.out⟩
        · cases t2
          · have HB : Hid (lnsB M = false) := Lib.hid (by unfold lnsB; rw [allL_bad M k (by rw [HL.out]; exact hlt) (by rw [HK.out]; rfl)]; rfl)
            go_wp2_with (first | (go_at_call 74; refine (IN.out _).mono ?_; rintro e w3 ⟨rfl, hb⟩; have LR := Lib.hid hb; have L3 := Lib.hid (Later.trans B3.out hb); obtain ⟨q0, q1, q2, q3, q4, q5⟩ := C0.out _ L3.out; obtain ⟨z0, z1⟩ := KL.out _ hb; clear hb) | (go_at_call 97; refine (IE.out _ (HT2.out.later LR.out)).mono ?_; rintro e w4 ⟨rfl, hb⟩; have L4 := Lib.hid (Later.trans L3.out hb); clear hb))
            all_goals
              go_ret
              exact ⟨by rw [HW.out, HB.out]; rfl, Later.trans A0.out L4.out⟩
          · go_wp2_with (first | (go_at_call 74; refine (IN.out _).mono ?_; rintro e w3 ⟨rfl, hb⟩; have LR := Lib.hid hb; have L3 := Lib.hid (Later.trans B3.out hb); obtain ⟨q0, q1, q2, q3, q4, q5⟩ := C0.out _ L3.out; obtain ⟨z0, z1⟩ := KL.out _ hb; clear hb) | (go_at_call 97; refine (IE.out _ (HT2.out.later LR.out)).mono ?_; rintro e w4 ⟨rfl, hb⟩; have L4 := Lib.hid (Later.trans L3.out hb); clear hb))
            all_goals
              go_roundw
              case rel =>
                refine ⟨k + 1, by omega, by go_num, L4.out, Lib.hid ?_⟩
                intro q hq
                rcases Nat.lt_or_ge q k with h1 | h1
                · exact HI.out q h1
                · obtain rfl : q = k := by omega
                  exact HK.out
              case measure => simp [intOf]; omega
      · obtain rfl : k = n4 := by omega
        have HF : Hid (lnsB M = (decide ((1 : Int) ≤ (k : Int)) && decide ((k : Int) ≤ 40))) := Lib.hid (by
          unfold lnsB; rw [allL_all M (by rw [HL.out]; exact HI.out), HL.out, Bool.true_and]
          congr 1
          · exact decide_eq_decide.2 (by omega)
          · exact decide_eq_decide.2 (by omega))
        have IR := Lib.hid (fun W' => s_InR (k : Int) 1 40 W' ⟨by omega, by omega⟩)
        obtain ⟨t, ht⟩ : ∃ t, t = (decide ((1 : Int) ≤ (k : Int)) && decide ((k : Int) ≤ 40)) := ⟨_, rfl⟩
        rw [← ht] at HF IR
        clear hb ht
        go_wp2_with (go_at_call 98; refine (IR.out _).mono ?_; rintro e w' ⟨rfl, rfl⟩)
        go_ret
        exact ⟨by rw [HW.out, HF.out]; rfl, Later.trans A0.out B3.out⟩
end Go.Proofs.YtokipobjpinhmaaDoor
namespace Go.Proofs.YtokipobjpinhmaaDoor
open Go.RowKit Go.Shelf
set_option maxHeartbeats 4000000
set_option maxRecDepth 100000
set_option linter.unusedVariables false
set_option linter.unusedSimpArgs false
/-- what LineOf says -/
def lnV (p : Prg) (x : List UInt8) : Int := if wrtB p = true then (if ixV (tgs p.lns) x < 0 then 0 else ixV (tgs p.lns) x) else 0
def lnE (p : Prg) (x : List UInt8) : Int := if wrtB p = true then (if ixV (tgs p.lns) x < 0 then 4 else 0) else 1
theorem ix_rng (p : Prg) (x : List UInt8) (h : p.lns.length ≤ 1048576) : -1 ≤ ixV (tgs p.lns) x ∧ ixV (tgs p.lns) x ≤ 1048576 := by
  have := ixV_lo (tgs p.lns) x
  rw [tgs_len] at this
  omega
theorem tgs_short {w : World} {a : Option Addr} {n : Nat} {M : List Lne} (h : Lns w a n M) : ∀ x ∈ tgs M, x.length ≤ 1048576 := by
  intro x hx
  obtain ⟨y, hy, rfl⟩ := List.mem_map.1 hx
  exact (h.2.2.2 y hy).1
theorem i_LineOf (v : Value) (p : Prg) (x : List UInt8) (w : World) (hp : PgV w v p) (ho : Ops w) (hl : p.lns.length ≤ 1048576) :
    Calls Tryd.prog 22 #[v, .string (tx x)] w fun e w' => e = .returned (.tuple #[.int .i64 (lnV p x), .int .i64 (lnE p x)]) ∧ Later w w' := by
  have IW := Lib.hid (fun W (h : Later w W) => i_IsWritten v p W (hp.later h) (ho.later h) (by omega))
  have TG := Lib.hid (fun W (h : Later w W) => i_targets v p W (hp.later h) hl)
  have IX := Lib.hid (fun a n cap W h => i_IndexT a n cap (tgs p.lns) x W h)
  have HR := Lib.hid (ix_rng p x hl)
  have HV : Hid (lnV p x = if wrtB p = true then (if ixV (tgs p.lns) x < 0 then 0 else ixV (tgs p.lns) x) else 0) := Lib.hid rfl
  have HE : Hid (lnE p x = if wrtB p = true then (if ixV (tgs p.lns) x < 0 then 4 else 0) else 1) := Lib.hid rfl
  obtain ⟨a1, c1, a2, c2, a3, c3, a4, c4, rfl, h1, h2, h3, h4, h5, h6⟩ := hp
  have SH := Lib.hid (tgs_short h4)
  clear h1 h2 h3 h4 h5 h6 ho hl
  obtain ⟨X, hX⟩ : ∃ q, q = tx x := ⟨_, rfl⟩
  rw [← hX] at IX ⊢
  generalize lnV p x = V at HV ⊢
  generalize lnE p x = E at HE ⊢
  generalize wrtB p = b at IW HV HE
  generalize ixV (tgs p.lns) x = r at IX HR HV HE
  obtain ⟨s0, hs0⟩ : ∃ q, q = tx p.nm := ⟨_, rfl⟩
  obtain ⟨s4, hs4⟩ : ∃ q, q = tx p.grd := ⟨_, rfl⟩
  obtain ⟨n1, hn1⟩ : ∃ q, q = p.ins.length := ⟨_, rfl⟩
  obtain ⟨n2, hn2⟩ : ∃ q, q = p.vrs.length := ⟨_, rfl⟩
  obtain ⟨n3, hn3⟩ : ∃ q, q = p.outs.length := ⟨_, rfl⟩
  obtain ⟨n4, hn4⟩ : ∃ q, q = p.lns.length := ⟨_, rfl⟩
  simp only [← hs0, ← hs4, ← hn1, ← hn2, ← hn3, ← hn4] at IW TG ⊢
  generalize tgs p.lns = T at *
  clear hs0 hs4 hn1 hn2 hn3 hn4 hX
  have q0 : (w.alloc (.cells #[.string s0, .slice a1 n1 c1, .slice a2 n2 c2, .slice a3 n3 c3, .string s4, .slice a4 n4 c4] 27)).cell? ⟨w.heap.size, 0, none⟩ = some (.string s0) := by rw [cell_of_row _ _ 0 _ _ (0, 0) (heap_alloc_new w _)]; rfl
  have q1 : (w.alloc (.cells #[.string s0, .slice a1 n1 c1, .slice a2 n2 c2, .slice a3 n3 c3, .string s4, .slice a4 n4 c4] 27)).cell? ⟨w.heap.size, 1, none⟩ = some (.slice a1 n1 c1) := by rw [cell_of_row _ _ 1 _ _ (0, 0) (heap_alloc_new w _)]; rfl
  have q2 : (w.alloc (.cells #[.string s0, .slice a1 n1 c1, .slice a2 n2 c2, .slice a3 n3 c3, .string s4, .slice a4 n4 c4] 27)).cell? ⟨w.heap.size, 2, none⟩ = some (.slice a2 n2 c2) := by rw [cell_of_row _ _ 2 _ _ (0, 0) (heap_alloc_new w _)]; rfl
  have q3 : (w.alloc (.cells #[.string s0, .slice a1 n1 c1, .slice a2 n2 c2, .slice a3 n3 c3, .string s4, .slice a4 n4 c4] 27)).cell? ⟨w.heap.size, 3, none⟩ = some (.slice a3 n3 c3) := by rw [cell_of_row _ _ 3 _ _ (0, 0) (heap_alloc_new w _)]; rfl
  have q4 : (w.alloc (.cells #[.string s0, .slice a1 n1 c1, .slice a2 n2 c2, .slice a3 n3 c3, .string s4, .slice a4 n4 c4] 27)).cell? ⟨w.heap.size, 4, none⟩ = some (.string s4) := by rw [cell_of_row _ _ 4 _ _ (0, 0) (heap_alloc_new w _)]; rfl
  have q5 : (w.alloc (.cells #[.string s0, .slice a1 n1 c1, .slice a2 n2 c2, .slice a3 n3 c3, .string s4, .slice a4 n4 c4] 27)).cell? ⟨w.heap.size, 5, none⟩ = some (.slice a4 n4 c4) := by rw [cell_of_row _ _ 5 _ _ (0, 0) (heap_alloc_new w _)]; rfl
  have hW0 : w.heap.size < (w.alloc (.cells #[.string s0, .slice a1 n1 c1, .slice a2 n2 c2, .slice a3 n3 c3, .string s4, .slice a4 n4 c4] 27)).heap.size := by rw [World.size_alloc]; exact Nat.lt_succ_self _
  have C0 : Hid (∀ W', Later (w.alloc (.cells #[.string s0, .slice a1 n1 c1, .slice a2 n2 c2, .slice a3 n3 c3, .string s4, .slice a4 n4 c4] 27)) W' → W'.cell? ⟨w.heap.size, 0, none⟩ = some (.string s0) ∧ W'.cell? ⟨w.heap.size, 1, none⟩ = some (.slice a1 n1 c1) ∧ W'.cell? ⟨w.heap.size, 2, none⟩ = some (.slice a2 n2 c2) ∧ W'.cell? ⟨w.heap.size, 3, none⟩ = some (.slice a3 n3 c3) ∧ W'.cell? ⟨w.heap.size, 4, none⟩ = some (.string s4) ∧ W'.cell? ⟨w.heap.size, 5, none⟩ = some (.slice a4 n4 c4)) := Lib.hid (fun W' q => ⟨by rw [q.cell (p := ⟨w.heap.size, 0, none⟩) hW0]; exact q0, by rw [q.cell (p := ⟨w.heap.size, 1, none⟩) hW0]; exact q1, by rw [q.cell (p := ⟨w.heap.size, 2, none⟩) hW0]; exact q2, by rw [q.cell (p := ⟨w.heap.size, 3, none⟩) hW0]; exact q3, by rw [q.cell (p := ⟨w.heap.size, 4, none⟩) hW0]; exact q4, by rw [q.cell (p := ⟨w.heap.size, 5, none⟩) hW0]; exact q5⟩)
  have A0 : Hid (Later w (w.alloc (.cells #[.string s0, .slice a1 n1 c1, .slice a2 n2 c2, .slice a3 n3 c3, .string s4, .slice a4 n4 c4] 27))) := Lib.hid ((Later.refl _).alloc _)
  clear hW0
  cases b
  · have HV2 : V = 0 := HV.out
    have HE2 : E = 1 := HE.out
    subst HV2; subst HE2
    go_enter Tryd.func22, Tryd.ntmps22
    go_wp2_with fail
    generalize (w.alloc (.cells #[.string s0, .slice a1 n1 c1, .slice a2 n2 c2, .slice a3 n3 c3, .string s4, .slice a4 n4 c4] 27)) = W0 at C0 A0 q0 q1 q2 q3 q4 q5 ⊢
    refine (IW.out _ A0.out).mono ?_
    rintro e w1 ⟨rfl, hb⟩
    have B1 := Lib.hid (Later.trans A0.out hb)
    clear hb q0 q1 q2 q3 q4 q5
    go_wp2_with fail
    all_goals
      refine bodyPost_ret (v := .tuple #[.int .i64 0, .int .i64 1]) (by simp [results, Tryd.results22, go_sem, *]) rfl ⟨rfl, B1.out⟩
  · have HV2 : V = if r < 0 then 0 else r := HV.out
    have HE2 : E = if r < 0 then 4 else 0 := HE.out
    have hr := HR.out
    go_enter Tryd.func22, Tryd.ntmps22
    go_wp2_with fail
    generalize (w.alloc (.cells #[.string s0, .slice a1 n1 c1, .slice a2 n2 c2, .slice a3 n3 c3, .string s4, .slice a4 n4 c4] 27)) = W0 at C0 A0 q0 q1 q2 q3 q4 q5 ⊢
    refine (IW.out _ A0.out).mono ?_
    rintro e w1 ⟨rfl, hb⟩
    have B1 := Lib.hid (Later.trans A0.out hb)
    clear q0 q1 q2 q3 q4 q5
    obtain ⟨q0, q1, q2, q3, q4, q5⟩ := C0.out _ hb
    clear hb
    go_wp2_with fail
    refine (TG.out _ B1.out).mono ?_
    rintro e w2 ⟨u, rfl, ho, hb⟩
    have B2 := Lib.hid (Later.trans B1.out hb)
    obtain ⟨a, c, rfl, _, hs, _⟩ := ho.sts SH.out
    have IX2 := Lib.hid (IX.out a _ c w2 hs)
    clear ho hs hb q0 q1 q2 q3 q4 q5
    generalize T.length = n at IX2 ⊢
    go_wp2_with fail
    refine IX2.out.mono ?_
    rintro e w3 ⟨rfl, rfl⟩
    by_cases hc : r < 0
    · rw [if_pos hc] at HV2 HE2
      subst HV2; subst HE2
      go_wp2_with fail
      all_goals
        refine bodyPost_ret (v := .tuple #[.int .i64 0, .int .i64 4]) (by simp [results, Tryd.results22, go_sem, *]) rfl ⟨rfl, B2.out⟩
    · rw [if_neg hc] at HV2 HE2
      subst HE2
      obtain rfl : V = r := HV2
      go_wp2_with fail
      all_goals
        refine bodyPost_ret (v := .tuple #[.int .i64 V, .int .i64 0]) (by simp [results, Tryd.results22, go_sem, *]) rfl ⟨rfl, B2.out⟩
theorem s_Line (v : Value) (p : Prg) (x : List UInt8) (w : World) (hp : PgV w v p) (hl : p.lns.length ≤ 1048576) :
    Calls Tryd.prog 66 #[v, .string (tx x)] w fun e w' => e = .returned (.int .i64 (ixV (tgs p.lns) x)) ∧ Later w w' := by
  obtain ⟨a1, c1, a2, c2, a3, c3, a4, c4, rfl, h1, h2, h3, h4, h5, h6⟩ := hp
  have P4 := Lib.hid h4
  have TA : Hid (∀ j, j < p.lns.length → wx (tgs p.lns) j = ltx p.lns j) := Lib.hid (fun j h => tgs_at p.lns j h)
  have EQ := Lib.hid (fun y => eqx y x)
  have RH : Hid (∀ j, j < p.lns.length → wx (tgs p.lns) j = x → (∀ i, i < j → wx (tgs p.lns) i ≠ x) → ixV (tgs p.lns) x = (j : Int)) := Lib.hid (fun j h1 h2 h3 => ixV_hit (tgs p.lns) x j (by rw [tgs_len]; exact h1) h2 h3)
  have RM : Hid ((∀ i, i < p.lns.length → wx (tgs p.lns) i ≠ x) → ixV (tgs p.lns) x = -1) := Lib.hid (fun h => ixV_miss (tgs p.lns) x (by rw [tgs_len]; exact h))
  clear h1 h2 h3 h4 h5 h6
  obtain ⟨X, hX⟩ : ∃ q, q = tx x := ⟨_, rfl⟩
  rw [← hX] at EQ ⊢
  obtain ⟨s0, hs0⟩ : ∃ q, q = tx p.nm := ⟨_, rfl⟩
  obtain ⟨s4, hs4⟩ : ∃ q, q = tx p.grd := ⟨_, rfl⟩
  obtain ⟨n1, hn1⟩ : ∃ q, q = p.ins.length := ⟨_, rfl⟩
  obtain ⟨n2, hn2⟩ : ∃ q, q = p.vrs.length := ⟨_, rfl⟩
  obtain ⟨n3, hn3⟩ : ∃ q, q = p.outs.length := ⟨_, rfl⟩
  obtain ⟨n4, hn4⟩ : ∃ q, q = p.lns.length := ⟨_, rfl⟩
  simp only [← hs0, ← hs4, ← hn1, ← hn2, ← hn3, ← hn4] at P4 TA RH RM hl ⊢
  generalize ixV (tgs p.lns) x = r at RH RM ⊢
  generalize p.lns = M at *
  clear hs0 hs4 hn1 hn2 hn3 hn4 hX
  have q0 : (w.alloc (.cells #[.string s0, .slice a1 n1 c1, .slice a2 n2 c2, .slice a3 n3 c3, .string s4, .slice a4 n4 c4] 27)).cell? ⟨w.heap.size, 0, none⟩ = some (.string s0) := by rw [cell_of_row _ _ 0 _ _ (0, 0) (heap_alloc_new w _)]; rfl
  have q1 : (w.alloc (.cells #[.string s0, .slice a1 n1 c1, .slice a2 n2 c2, .slice a3 n3 c3, .string s4, .slice a4 n4 c4] 27)).cell? ⟨w.heap.size, 1, none⟩ = some (.slice a1 n1 c1) := by rw [cell_of_row _ _ 1 _ _ (0, 0) (heap_alloc_new w _)]; rfl
  have q2 : (w.alloc (.cells #[.string s0, .slice a1 n1 c1, .slice a2 n2 c2, .slice a3 n3 c3, .string s4, .slice a4 n4 c4] 27)).cell? ⟨w.heap.size, 2, none⟩ = some (.slice a2 n2 c2) := by rw [cell_of_row _ _ 2 _ _ (0, 0) (heap_alloc_new w _)]; rfl
  have q3 : (w.alloc (.cells #[.string s0, .slice a1 n1 c1, .slice a2 n2 c2, .slice a3 n3 c3, .string s4, .slice a4 n4 c4] 27)).cell? ⟨w.heap.size, 3, none⟩ = some (.slice a3 n3 c3) := by rw [cell_of_row _ _ 3 _ _ (0, 0) (heap_alloc_new w _)]; rfl
  have q4 : (w.alloc (.cells #[.string s0, .slice a1 n1 c1, .slice a2 n2 c2, .slice a3 n3 c3, .string s4, .slice a4 n4 c4] 27)).cell? ⟨w.heap.size, 4, none⟩ = some (.string s4) := by rw [cell_of_row _ _ 4 _ _ (0, 0) (heap_alloc_new w _)]; rfl
  have q5 : (w.alloc (.cells #[.string s0, .slice a1 n1 c1, .slice a2 n2 c2, .slice a3 n3 c3, .string s4, .slice a4 n4 c4] 27)).cell? ⟨w.heap.size, 5, none⟩ = some (.slice a4 n4 c4) := by rw [cell_of_row _ _ 5 _ _ (0, 0) (heap_alloc_new w _)]; rfl
  have hW0 : w.heap.size < (w.alloc (.cells #[.string s0, .slice a1 n1 c1, .slice a2 n2 c2, .slice a3 n3 c3, .string s4, .slice a4 n4 c4] 27)).heap.size := by rw [World.size_alloc]; exact Nat.lt_succ_self _
  have C0 : Hid (∀ W', Later (w.alloc (.cells #[.string s0, .slice a1 n1 c1, .slice a2 n2 c2, .slice a3 n3 c3, .string s4, .slice a4 n4 c4] 27)) W' → W'.cell? ⟨w.heap.size, 0, none⟩ = some (.string s0) ∧ W'.cell? ⟨w.heap.size, 1, none⟩ = some (.slice a1 n1 c1) ∧ W'.cell? ⟨w.heap.size, 2, none⟩ = some (.slice a2 n2 c2) ∧ W'.cell? ⟨w.heap.size, 3, none⟩ = some (.slice a3 n3 c3) ∧ W'.cell? ⟨w.heap.size, 4, none⟩ = some (.string s4) ∧ W'.cell? ⟨w.heap.size, 5, none⟩ = some (.slice a4 n4 c4)) := Lib.hid (fun W' q => ⟨by rw [q.cell (p := ⟨w.heap.size, 0, none⟩) hW0]; exact q0, by rw [q.cell (p := ⟨w.heap.size, 1, none⟩) hW0]; exact q1, by rw [q.cell (p := ⟨w.heap.size, 2, none⟩) hW0]; exact q2, by rw [q.cell (p := ⟨w.heap.size, 3, none⟩) hW0]; exact q3, by rw [q.cell (p := ⟨w.heap.size, 4, none⟩) hW0]; exact q4, by rw [q.cell (p := ⟨w.heap.size, 5, none⟩) hW0]; exact q5⟩)
  have A0 : Hid (Later w (w.alloc (.cells #[.string s0, .slice a1 n1 c1, .slice a2 n2 c2, .slice a3 n3 c3, .string s4, .slice a4 n4 c4] 27))) := Lib.hid ((Later.refl _).alloc _)
  clear hW0
  have P5 := Lib.hid (P4.out.later A0.out)
  clear C0 q0 q1 q2 q3 q4
  go_enter Tryd.func66, Tryd.ntmps66
  go_wp2_with fail
  generalize (w.alloc (.cells #[.string s0, .slice a1 n1 c1, .slice a2 n2 c2, .slice a3 n3 c3, .string s4, .slice a4 n4 c4] 27)) = W0 at A0 P5 q5 ⊢
  go_loop [5] (fun i => ∃ k : Nat, k ≤ n4 ∧ i = .int .i64 k ∧ Hid (∀ j, j < k → wx (tgs M) j ≠ x)) (fun i => n4 - (intOf i).toNat)
  case atStart => exact ⟨0, by omega, rfl, Lib.hid (by intro j h; omega)⟩
  case round =>
    obtain ⟨k, hk, rfl, HI⟩ := hrel
    by_cases hlt : k < n4
    · obtain ⟨b, off, ta, tc, rfl, c0, _, _⟩ := P5.out.2.2.1 k hlt
      have EK := EQ.out (ltx M k)
      have ET := TA.out k hlt
      have HR0 := Lib.hid (RH.out k hlt)
      have HIE : Hid (wx (tgs M) k = ltx M k) := Lib.hid ET
      clear ET
      obtain ⟨y, hy⟩ : ∃ y, y = tx (ltx M k) := ⟨_, rfl⟩
      rw [← hy] at c0 EK
      clear hy
      by_cases he : ltx M k = x
      · rw [decide_eq_true he] at EK
        have HR := Lib.hid (HR0.out (HIE.out.trans he) HI.out)
        clear he
        go_wp2_with fail
        all_goals
          go_ret
          exact ⟨by rw [HR.out]; rfl, A0.out⟩
      · rw [decide_eq_false he] at EK
        have HE := Lib.hid he
        clear he
        go_wp2_with fail
        go_roundw
        case rel =>
          refine ⟨k + 1, by omega, by go_num, Lib.hid ?_⟩
          intro q hq
          rcases Nat.lt_or_ge q k with h1 | h1
          · exact HI.out q h1
          · obtain rfl : q = k := by omega
            rw [HIE.out]; exact HE.out
        case measure => simp [intOf]; omega
    · obtain rfl : k = n4 := by omega
      have HR := Lib.hid (RM.out HI.out)
      go_wp2_with fail
      all_goals
        go_ret
        exact ⟨by rw [HR.out]; rfl, A0.out⟩
theorem s_LineOf (v : Value) (p : Prg) (x : List UInt8) (w : World) (hp : PgV w v p) (hl : p.lns.length ≤ 1048576) :
    Calls Tryd.prog 27 #[v, .string (tx x)] w fun e w' => e = .returned (.tuple #[.int .i64 (lnV p x), .int .i64 (lnE p x)]) ∧ Later w w' := by
  have IW := Lib.hid (fun W (h : Later w W) => s_IsWritten v p W (hp.later h) (by omega))
  have TG := Lib.hid (fun W (h : Later w W) => s_Line v p x W (hp.later h) hl)
  have HR := Lib.hid (ix_rng p x hl)
  have HV : Hid (lnV p x = if wrtB p = true then (if ixV (tgs p.lns) x < 0 then 0 else ixV (tgs p.lns) x) else 0) := Lib.hid rfl
  have HE : Hid (lnE p x = if wrtB p = true then (if ixV (tgs p.lns) x < 0 then 4 else 0) else 1) := Lib.hid rfl
  obtain ⟨a1, c1, a2, c2, a3, c3, a4, c4, rfl, h1, h2, h3, h4, h5, h6⟩ := hp
  clear h1 h2 h3 h4 h5 h6 hl
  obtain ⟨X, hX⟩ : ∃ q, q = tx x := ⟨_, rfl⟩
  rw [← hX] at TG ⊢
  generalize lnV p x = V at HV ⊢
  generalize lnE p x = E at HE ⊢
  generalize wrtB p = b at IW HV HE
  generalize ixV (tgs p.lns) x = r at TG HR HV HE
  obtain ⟨s0, hs0⟩ : ∃ q, q = tx p.nm := ⟨_, rfl⟩
  obtain ⟨s4, hs4⟩ : ∃ q, q = tx p.grd := ⟨_, rfl⟩
  obtain ⟨n1, hn1⟩ : ∃ q, q = p.ins.length := ⟨_, rfl⟩
  obtain ⟨n2, hn2⟩ : ∃ q, q = p.vrs.length := ⟨_, rfl⟩
  obtain ⟨n3, hn3⟩ : ∃ q, q = p.outs.length := ⟨_, rfl⟩
  obtain ⟨n4, hn4⟩ : ∃ q, q = p.lns.length := ⟨_, rfl⟩
  simp only [← hs0, ← hs4, ← hn1, ← hn2, ← hn3, ← hn4] at IW TG ⊢
  clear hs0 hs4 hn1 hn2 hn3 hn4 hX
  have q0 : (w.alloc (.cells #[.string s0, .slice a1 n1 c1, .slice a2 n2 c2, .slice a3 n3 c3, .string s4, .slice a4 n4 c4] 27)).cell? ⟨w.heap.size, 0, none⟩ = some (.string s0) := by rw [cell_of_row _ _ 0 _ _ (0, 0) (heap_alloc_new w _)]; rfl
  have q1 : (w.alloc (.cells #[.string s0, .slice a1 n1 c1, .slice a2 n2 c2, .slice a3 n3 c3, .string s4, .slice a4 n4 c4] 27)).cell? ⟨w.heap.size, 1, none⟩ = some (.slice a1 n1 c1) := by rw [cell_of_row _ _ 1 _ _ (0, 0) (heap_alloc_new w _)]; rfl
  have q2 : (w.alloc (.cells #[.string s0, .slice a1 n1 c1, .slice a2 n2 c2, .slice a3 n3 c3, .string s4, .slice a4 n4 c4] 27)).cell? ⟨w.heap.size, 2, none⟩ = some (.slice a2 n2 c2) := by rw [cell_of_row _ _ 2 _ _ (0, 0) (heap_alloc_new w _)]; rfl
  have q3 : (w.alloc (.cells #[.string s0, .slice a1 n1 c1, .slice a2 n2 c2, .slice a3 n3 c3, .string s4, .slice a4 n4 c4] 27)).cell? ⟨w.heap.size, 3, none⟩ = some (.slice a3 n3 c3) := by rw [cell_of_row _ _ 3 _ _ (0, 0) (heap_alloc_new w _)]; rfl
  have q4 : (w.alloc (.cells #[.string s0, .slice a1 n1 c1, .slice a2 n2 c2, .slice a3 n3 c3, .string s4, .slice a4 n4 c4] 27)).cell? ⟨w.heap.size, 4, none⟩ = some (.string s4) := by rw [cell_of_row _ _ 4 _ _ (0, 0) (heap_alloc_new w _)]; rfl
  have q5 : (w.alloc (.cells #[.string s0, .slice a1 n1 c1, .slice a2 n2 c2, .slice a3 n3 c3, .string s4, .slice a4 n4 c4] 27)).cell? ⟨w.heap.size, 5, none⟩ = some (.slice a4 n4 c4) := by rw [cell_of_row _ _ 5 _ _ (0, 0) (heap_alloc_new w _)]; rfl
  have hW0 : w.heap.size < (w.alloc (.cells #[.string s0, .slice a1 n1 c1, .slice a2 n2 c2, .slice a3 n3 c3, .string s4, .slice a4 n4 c4] 27)).heap.size := by rw [World.size_alloc]; exact Nat.lt_succ_self _
  have C0 : Hid (∀ W', Later (w.alloc (.cells #[.string s0, .slice a1 n1 c1, .slice a2 n2 c2, .slice a3 n3 c3, .string s4, .slice a4 n4 c4] 27)) W' → W'.cell? ⟨w.heap.size, 0, none⟩ = some (.string s0) ∧ W'.cell? ⟨w.heap.size, 1, none⟩ = some (.slice a1 n1 c1) ∧ W'.cell? ⟨w.heap.size, 2, none⟩ = some (.slice a2 n2 c2) ∧ W'.cell? ⟨w.heap.size, 3, none⟩ = some (.slice a3 n3 c3) ∧ W'.cell? ⟨w.heap.size, 4, none⟩ = some (.string s4) ∧ W'.cell? ⟨w.heap.size, 5, none⟩ = some (.slice a4 n4 c4)) := Lib.hid (fun W' q => ⟨by rw [q.cell (p := ⟨w.heap.size, 0, none⟩) hW0]; exact q0, by rw [q.cell (p := ⟨w.heap.size, 1, none⟩) hW0]; exact q1, by rw [q.cell (p := ⟨w.heap.size, 2, none⟩) hW0]; exact q2, by rw [q.cell (p := ⟨w.heap.size, 3, none⟩) hW0]; exact q3, by rw [q.cell (p := ⟨w.heap.size, 4, none⟩) hW0]; exact q4, by rw [q.cell (p := ⟨w.heap.size, 5, none⟩) hW0]; exact q5⟩)
  have A0 : Hid (Later w (w.alloc (.cells #[.string s0, .slice a1 n1 c1, .slice a2 n2 c2, .slice a3 n3 c3, .string s4, .slice a4 n4 c4] 27))) := Lib.hid ((Later.refl _).alloc _)
  clear hW0
  cases b
  · have HV2 : V = 0 := HV.out
    have HE2 : E = 1 := HE.out
    subst HV2; subst HE2
    go_enter Tryd.func27, Tryd.ntmps27
    go_wp2_with fail
    generalize (w.alloc (.cells #[.string s0, .slice a1 n1 c1, .slice a2 n2 c2, .slice a3 n3 c3, .string s4, .slice a4 n4 c4] 27)) = W0 at C0 A0 q0 q1 q2 q3 q4 q5 ⊢
    refine (IW.out _ A0.out).mono ?_
    rintro e w1 ⟨rfl, hb⟩
    have B1 := Lib.hid (Later.trans A0.out hb)
    clear hb q0 q1 q2 q3 q4 q5
    go_wp2_with fail
    all_goals
      refine bodyPost_ret (v := .tuple #[.int .i64 0, .int .i64 1]) (by simp [results, Tryd.results27, go_sem, *]) rfl ⟨rfl, B1.out⟩
  · have HV2 : V = if r < 0 then 0 else r := HV.out
    have HE2 : E = if r < 0 then 4 else 0 := HE.out
    have hr := HR.out
    go_enter Tryd.func27, Tryd.ntmps27
    go_wp2_with fail
    generalize (w.alloc (.cells #[.string s0, .slice a1 n1 c1, .slice a2 n2 c2, .slice a3 n3 c3, .string s4, .slice a4 n4 c4] 27)) = W0 at C0 A0 q0 q1 q2 q3 q4 q5 ⊢
    refine (IW.out _ A0.out).mono ?_
    rintro e w1 ⟨rfl, hb⟩
    have B1 := Lib.hid (Later.trans A0.out hb)
    clear q0 q1 q2 q3 q4 q5
    obtain ⟨q0, q1, q2, q3, q4, q5⟩ := C0.out _ hb
    clear hb
    go_wp2_with fail
    refine (TG.out _ B1.out).mono ?_
    rintro e w2 ⟨rfl, hb⟩
    have B2 := Lib.hid (Later.trans B1.out hb)
    clear hb q0 q1 q2 q3 q4 q5
    by_cases hc : r < 0
    · rw [if_pos hc] at HV2 HE2
      subst HV2; subst HE2
      go_wp2_with fail
      all_goals
        refine bodyPost_ret (v := .tuple #[.int .i64 0, .int .i64 4]) (by simp [results, Tryd.results27, go_sem, *]) rfl ⟨rfl, B2.out⟩
    · rw [if_neg hc] at HV2 HE2
      subst HE2
      obtain rfl : V = r := HV2
      go_wp2_with fail
      all_goals
        refine bodyPost_ret (v := .tuple #[.int .i64 V, .int .i64 0]) (by simp [results, Tryd.results27, go_sem, *]) rfl ⟨rfl, B2.out⟩
end Go.Proofs.YtokipobjpinhmaaDoor
namespace Go.Proofs.YtokipobjpinhmaaDoor
open Go.RowKit Go.Shelf
set_option maxHeartbeats 4000000
set_option maxRecDepth 100000
set_option linter.unusedVariables false
set_option linter.unusedSimpArgs false
/-- what is known of the sizes of a written program -/
def Wb (p : Prg) : Prop := 1 ≤ p.ins.length ∧ 1 ≤ p.outs.length ∧ p.ins.length ≤ 20 ∧ p.vrs.length ≤ 20 ∧ p.outs.length ≤ 20 ∧ p.lns.length ≤ 40 ∧ ∀ j, j < p.lns.length → exB (lrx p.lns j) = true
theorem wb_of (p : Prg) (h : wrtB p = true) : Wb p := by
  simp [wrtB, nmsB, lnsB] at h
  obtain ⟨⟨⟨⟨⟨⟨⟨_, _⟩, h1⟩, h2⟩, h3⟩, h4⟩, h5⟩, h6⟩ := h
  refine ⟨h1, h2, h3.2, h4.2, h5.2, h6.2, fun j hj => ?_⟩
  have := List.all_eq_true.1 h6.1.1 j (by simpa using hj)
  simp [lnOk] at this
  exact this.2
theorem Wb.len {p : Prg} (h : Wb p) (j : Nat) (hj : j < p.lns.length) : (lrx p.lns j).length ≤ 40 := (exB_parts _ (h.2.2.2.2.2.2 j hj)).1
theorem nmx_two (w : World) (T : TypeId) (b0 b1 n0 n1 c0 c1 : Nat) (W0 W1 : List (List UInt8)) (h0 : Sts w (some ⟨b0, 0, none⟩) n0 W0) (h1 : Sts w (some ⟨b1, 0, none⟩) n1 W1) : Nmx (w.alloc (.cells #[.slice (some ⟨b0, 0, none⟩) n0 c0, .slice (some ⟨b1, 0, none⟩) n1 c1] T)) (some ⟨w.heap.size, 0, none⟩) 2 [W0, W1] := by
  have hl : Later w (w.alloc (.cells #[.slice (some ⟨b0, 0, none⟩) n0 c0, .slice (some ⟨b1, 0, none⟩) n1 c1] T)) := (Later.refl _).alloc _
  refine ⟨rfl, fun j hj => ?_⟩
  match j, hj with
  | 0, _ => exact ⟨_, 0, b0, 0, n0, c0, rfl, by rw [cell_of_row _ _ 0 _ T (0, 0) (heap_alloc_new w _)]; rfl, h0.later hl⟩
  | 1, _ => exact ⟨_, 0, b1, 0, n1, c1, rfl, by rw [cell_of_row _ _ 1 _ T (0, 0) (heap_alloc_new w _)]; rfl, h1.later hl⟩
theorem nmx_three (w : World) (T : TypeId) (b0 b1 b2 n0 n1 n2 c0 c1 c2 : Nat) (W0 W1 W2 : List (List UInt8)) (h0 : Sts w (some ⟨b0, 0, none⟩) n0 W0) (h1 : Sts w (some ⟨b1, 0, none⟩) n1 W1) (h2 : Sts w (some ⟨b2, 0, none⟩) n2 W2) : Nmx (w.alloc (.cells #[.slice (some ⟨b0, 0, none⟩) n0 c0, .slice (some ⟨b1, 0, none⟩) n1 c1, .slice (some ⟨b2, 0, none⟩) n2 c2] T)) (some ⟨w.heap.size, 0, none⟩) 3 [W0, W1, W2] := by
  have hl : Later w (w.alloc (.cells #[.slice (some ⟨b0, 0, none⟩) n0 c0, .slice (some ⟨b1, 0, none⟩) n1 c1, .slice (some ⟨b2, 0, none⟩) n2 c2] T)) := (Later.refl _).alloc _
  refine ⟨rfl, fun j hj => ?_⟩
  match j, hj with
  | 0, _ => exact ⟨_, 0, b0, 0, n0, c0, rfl, by rw [cell_of_row _ _ 0 _ T (0, 0) (heap_alloc_new w _)]; rfl, h0.later hl⟩
  | 1, _ => exact ⟨_, 0, b1, 0, n1, c1, rfl, by rw [cell_of_row _ _ 1 _ T (0, 0) (heap_alloc_new w _)]; rfl, h1.later hl⟩
  | 2, _ => exact ⟨_, 0, b2, 0, n2, c2, rfl, by rw [cell_of_row _ _ 2 _ T (0, 0) (heap_alloc_new w _)]; rfl, h2.later hl⟩
theorem concat2 (b0 b1 n0 n1 c0 c1 : Nat) (W0 W1 : List (List UInt8)) (w W : World) (h : Nat) (T : TypeId) (hl : Later w W) (hh : W.heap.size = h) (h0 : Sts w (some ⟨b0, 0, none⟩) n0 W0) (h1 : Sts w (some ⟨b1, 0, none⟩) n1 W1) (z0 : n0 ≤ 1000) (z1 : n1 ≤ 1000) (hz : 0 < n0 + n1) :
    Calls Tryd.prog 70 #[.slice (some ⟨h, 0, none⟩) 2 2] (W.alloc (.cells #[.slice (some ⟨b0, 0, none⟩) n0 c0, .slice (some ⟨b1, 0, none⟩) n1 c1] T)) (RetTs W (W0 ++ W1)) := by
  subst hh
  have e0 := h0.1; have e1 := h1.1
  refine (i_ConcatN _ 2 2 [W0, W1] _ (nmx_two W T b0 b1 n0 n1 c0 c1 W0 W1 (h0.later hl) (h1.later hl)) (by omega) (take_le2 W0 W1 10000 (by omega)) (by simp; omega)).mono ?_
  rintro e w' ⟨u, rfl, ho, hb⟩
  have ef : [W0, W1].flatten = W0 ++ W1 := by simp
  rw [ef] at ho
  exact ⟨u, rfl, ownT_monoN ho (Later.size ((Later.refl W).alloc _)), Later.trans ((Later.refl _).alloc _) hb⟩
theorem concat3 (b0 b1 b2 n0 n1 n2 c0 c1 c2 : Nat) (W0 W1 W2 : List (List UInt8)) (w W : World) (h : Nat) (T : TypeId) (hl : Later w W) (hh : W.heap.size = h) (h0 : Sts w (some ⟨b0, 0, none⟩) n0 W0) (h1 : Sts w (some ⟨b1, 0, none⟩) n1 W1) (h2 : Sts w (some ⟨b2, 0, none⟩) n2 W2) (z0 : n0 ≤ 1000) (z1 : n1 ≤ 1000) (z2 : n2 ≤ 1000) (hz : 0 < n0 + n1 + n2) :
    Calls Tryd.prog 70 #[.slice (some ⟨h, 0, none⟩) 3 3] (W.alloc (.cells #[.slice (some ⟨b0, 0, none⟩) n0 c0, .slice (some ⟨b1, 0, none⟩) n1 c1, .slice (some ⟨b2, 0, none⟩) n2 c2] T)) (RetTs W (W0 ++ W1 ++ W2)) := by
  subst hh
  have e0 := h0.1; have e1 := h1.1; have e2 := h2.1
  refine (i_ConcatN _ 3 3 [W0, W1, W2] _ (nmx_three W T b0 b1 b2 n0 n1 n2 c0 c1 c2 W0 W1 W2 (h0.later hl) (h1.later hl) (h2.later hl)) (by omega) (take_le3 W0 W1 W2 10000 (by omega)) (by simp; omega)).mono ?_
  rintro e w' ⟨u, rfl, ho, hb⟩
  have ef : [W0, W1, W2].flatten = W0 ++ W1 ++ W2 := by simp
  rw [ef] at ho
  exact ⟨u, rfl, ownT_monoN ho (Later.size ((Later.refl W).alloc _)), Later.trans ((Later.refl _).alloc _) hb⟩
theorem RetTs.lift {w W : World} {S : List (List UInt8)} {e : Ending} {w' : World} (h : RetTs W S e w') (hl : Later w W) : RetTs w S e w' := by
  obtain ⟨u, rfl, ho, hb⟩ := h
  exact ⟨u, rfl, ownT_monoN ho hl.size, hl.trans hb⟩
theorem nameSet2a (a0 a1 : Option Addr) (n0 n1 c0 c1 : Nat) (W0 W1 : List (List UInt8)) (w W : World) (h : Nat) (T : TypeId) (hl : Later w W) (hh : W.heap.size = h) (h0 : Sts w a0 n0 W0) (h1 : Sts w a1 n1 W1) (z0 : n0 ≤ 1048576) (z1 : n1 ≤ 1048576) :
    Calls Tryd.prog 76 #[.slice (some ⟨h, 0, none⟩) 2 2] (W.alloc (.cells #[.slice a0 n0 c0, .slice a1 n1 c1] T)) (RetN W (W0 ++ W1)) := by
  subst hh
  exact nameSet2 a0 a1 n0 n1 c0 c1 W0 W1 T W (h0.later hl) (h1.later hl) z0 z1
theorem RetN.lift {w W : World} {S : List (List UInt8)} {e : Ending} {w' : World} (h : RetN W S e w') (hl : Later w W) : RetN w S e w' := by
  obtain ⟨u, rfl, ho, hb⟩ := h
  exact ⟨u, rfl, ho, hl.trans hb⟩
theorem i_declared (base : Nat) (v : Value) (p : Prg) (w : World) (hp : PgC base w v p) (hb : Wb p) : Calls Tryd.prog 77 #[v] w (RetTs w (p.ins ++ p.vrs ++ p.outs)) := by
  obtain ⟨g1, g2, g3, g4, rfl, _, ⟨h1, _⟩, ⟨h2, _⟩, ⟨h3, _⟩, _, _, _⟩ := hp
  obtain ⟨b1, b2, b3, b4, b5, _, _⟩ := hb
  have HC := Lib.hid (fun W h T hl hh => concat3 g1 g2 g3 p.ins.length p.vrs.length p.outs.length p.ins.length p.vrs.length p.outs.length p.ins p.vrs p.outs w W h T hl hh h1 h2 h3 (by omega) (by omega) (by omega) (by omega))
  obtain ⟨s0, hs0⟩ : ∃ q, q = tx p.nm := ⟨_, rfl⟩
  obtain ⟨s4, hs4⟩ : ∃ q, q = tx p.grd := ⟨_, rfl⟩
  obtain ⟨n1, hn1⟩ : ∃ q, q = p.ins.length := ⟨_, rfl⟩
  obtain ⟨n2, hn2⟩ : ∃ q, q = p.vrs.length := ⟨_, rfl⟩
  obtain ⟨n3, hn3⟩ : ∃ q, q = p.outs.length := ⟨_, rfl⟩
  obtain ⟨n4, hn4⟩ : ∃ q, q = p.lns.length := ⟨_, rfl⟩
  simp only [← hs0, ← hs4, ← hn1, ← hn2, ← hn3, ← hn4] at h1 h2 h3 b1 b2 b3 b4 b5 HC ⊢
  clear hs0 hs4 hn1 hn2 hn3 hn4
  have q1 : (w.alloc (.cells #[.string s0, .slice (some ⟨g1, 0, none⟩) n1 n1, .slice (some ⟨g2, 0, none⟩) n2 n2, .slice (some ⟨g3, 0, none⟩) n3 n3, .string s4, .slice (some ⟨g4, 0, none⟩) n4 n4] 27)).cell? ⟨w.heap.size, 1, none⟩ = some (.slice (some ⟨g1, 0, none⟩) n1 n1) := by rw [cell_of_row _ _ 1 _ _ (0, 0) (heap_alloc_new w _)]; rfl
  have q2 : (w.alloc (.cells #[.string s0, .slice (some ⟨g1, 0, none⟩) n1 n1, .slice (some ⟨g2, 0, none⟩) n2 n2, .slice (some ⟨g3, 0, none⟩) n3 n3, .string s4, .slice (some ⟨g4, 0, none⟩) n4 n4] 27)).cell? ⟨w.heap.size, 2, none⟩ = some (.slice (some ⟨g2, 0, none⟩) n2 n2) := by rw [cell_of_row _ _ 2 _ _ (0, 0) (heap_alloc_new w _)]; rfl
  have q3 : (w.alloc (.cells #[.string s0, .slice (some ⟨g1, 0, none⟩) n1 n1, .slice (some ⟨g2, 0, none⟩) n2 n2, .slice (some ⟨g3, 0, none⟩) n3 n3, .string s4, .slice (some ⟨g4, 0, none⟩) n4 n4] 27)).cell? ⟨w.heap.size, 3, none⟩ = some (.slice (some ⟨g3, 0, none⟩) n3 n3) := by rw [cell_of_row _ _ 3 _ _ (0, 0) (heap_alloc_new w _)]; rfl
  have A0 : Hid (Later w (w.alloc (.cells #[.string s0, .slice (some ⟨g1, 0, none⟩) n1 n1, .slice (some ⟨g2, 0, none⟩) n2 n2, .slice (some ⟨g3, 0, none⟩) n3 n3, .string s4, .slice (some ⟨g4, 0, none⟩) n4 n4] 27))) := Lib.hid ((Later.refl _).alloc _)
  clear h1 h2 h3 b1 b2 b3 b4 b5
  go_enter Tryd.func77, Tryd.ntmps77
  go_wp2_with (go_at_call 70; refine (HC.out _ _ _ A0.out (by first | rfl | exact World.size_alloc _ _)).mono ?_; rintro e w1 ⟨u, rfl, ho, hb⟩; have O1 := Lib.hid ho; have B1 := Lib.hid hb; clear ho hb)
  go_ret
  exact RetTs.lift ⟨u, rfl, O1.out, B1.out⟩ A0.out
theorem i_assignable (base : Nat) (v : Value) (p : Prg) (w : World) (hp : PgC base w v p) (hb : Wb p) : Calls Tryd.prog 119 #[v] w (RetTs w (p.vrs ++ p.outs)) := by
  obtain ⟨g1, g2, g3, g4, rfl, _, ⟨h1, _⟩, ⟨h2, _⟩, ⟨h3, _⟩, _, _, _⟩ := hp
  obtain ⟨b1, b2, b3, b4, b5, _, _⟩ := hb
  have HC := Lib.hid (fun W h T hl hh => concat2 g2 g3 p.vrs.length p.outs.length p.vrs.length p.outs.length p.vrs p.outs w W h T hl hh h2 h3 (by omega) (by omega) (by omega))
  obtain ⟨s0, hs0⟩ : ∃ q, q = tx p.nm := ⟨_, rfl⟩
  obtain ⟨s4, hs4⟩ : ∃ q, q = tx p.grd := ⟨_, rfl⟩
  obtain ⟨n1, hn1⟩ : ∃ q, q = p.ins.length := ⟨_, rfl⟩
  obtain ⟨n2, hn2⟩ : ∃ q, q = p.vrs.length := ⟨_, rfl⟩
  obtain ⟨n3, hn3⟩ : ∃ q, q = p.outs.length := ⟨_, rfl⟩
  obtain ⟨n4, hn4⟩ : ∃ q, q = p.lns.length := ⟨_, rfl⟩
  simp only [← hs0, ← hs4, ← hn1, ← hn2, ← hn3, ← hn4] at h1 h2 h3 b1 b2 b3 b4 b5 HC ⊢
  clear hs0 hs4 hn1 hn2 hn3 hn4
  have q2 : (w.alloc (.cells #[.string s0, .slice (some ⟨g1, 0, none⟩) n1 n1, .slice (some ⟨g2, 0, none⟩) n2 n2, .slice (some ⟨g3, 0, none⟩) n3 n3, .string s4, .slice (some ⟨g4, 0, none⟩) n4 n4] 27)).cell? ⟨w.heap.size, 2, none⟩ = some (.slice (some ⟨g2, 0, none⟩) n2 n2) := by rw [cell_of_row _ _ 2 _ _ (0, 0) (heap_alloc_new w _)]; rfl
  have q3 : (w.alloc (.cells #[.string s0, .slice (some ⟨g1, 0, none⟩) n1 n1, .slice (some ⟨g2, 0, none⟩) n2 n2, .slice (some ⟨g3, 0, none⟩) n3 n3, .string s4, .slice (some ⟨g4, 0, none⟩) n4 n4] 27)).cell? ⟨w.heap.size, 3, none⟩ = some (.slice (some ⟨g3, 0, none⟩) n3 n3) := by rw [cell_of_row _ _ 3 _ _ (0, 0) (heap_alloc_new w _)]; rfl
  have A0 : Hid (Later w (w.alloc (.cells #[.string s0, .slice (some ⟨g1, 0, none⟩) n1 n1, .slice (some ⟨g2, 0, none⟩) n2 n2, .slice (some ⟨g3, 0, none⟩) n3 n3, .string s4, .slice (some ⟨g4, 0, none⟩) n4 n4] 27))) := Lib.hid ((Later.refl _).alloc _)
  clear h1 h2 h3 b1 b2 b3 b4 b5
  go_enter Tryd.func119, Tryd.ntmps119
  go_wp2_with (go_at_call 70; refine (HC.out _ _ _ A0.out (by first | rfl | exact World.size_alloc _ _)).mono ?_; rintro e w1 ⟨u, rfl, ho, hb⟩; have O1 := Lib.hid ho; have B1 := Lib.hid hb; clear ho hb)
  go_ret
  exact RetTs.lift ⟨u, rfl, O1.out, B1.out⟩ A0.out
theorem i_readable (base : Nat) (v : Value) (p : Prg) (w : World) (hp : PgC base w v p) (hb : Wb p) : Calls Tryd.prog 118 #[v] w (RetN w (p.ins ++ p.vrs)) := by
  obtain ⟨g1, g2, g3, g4, rfl, _, ⟨h1, _⟩, ⟨h2, _⟩, ⟨h3, _⟩, _, _, _⟩ := hp
  obtain ⟨b1, b2, b3, b4, b5, _, _⟩ := hb
  have HC := Lib.hid (fun W h T hl hh => nameSet2a (some ⟨g1, 0, none⟩) (some ⟨g2, 0, none⟩) p.ins.length p.vrs.length p.ins.length p.vrs.length p.ins p.vrs w W h T hl hh h1 h2 (by omega) (by omega))
  obtain ⟨s0, hs0⟩ : ∃ q, q = tx p.nm := ⟨_, rfl⟩
  obtain ⟨s4, hs4⟩ : ∃ q, q = tx p.grd := ⟨_, rfl⟩
  obtain ⟨n1, hn1⟩ : ∃ q, q = p.ins.length := ⟨_, rfl⟩
  obtain ⟨n2, hn2⟩ : ∃ q, q = p.vrs.length := ⟨_, rfl⟩
  obtain ⟨n3, hn3⟩ : ∃ q, q = p.outs.length := ⟨_, rfl⟩
  obtain ⟨n4, hn4⟩ : ∃ q, q = p.lns.length := ⟨_, rfl⟩
  simp only [← hs0, ← hs4, ← hn1, ← hn2, ← hn3, ← hn4] at h1 h2 h3 b1 b2 b3 b4 b5 HC ⊢
  clear hs0 hs4 hn1 hn2 hn3 hn4
  have q1 : (w.alloc (.cells #[.string s0, .slice (some ⟨g1, 0, none⟩) n1 n1, .slice (some ⟨g2, 0, none⟩) n2 n2, .slice (some ⟨g3, 0, none⟩) n3 n3, .string s4, .slice (some ⟨g4, 0, none⟩) n4 n4] 27)).cell? ⟨w.heap.size, 1, none⟩ = some (.slice (some ⟨g1, 0, none⟩) n1 n1) := by rw [cell_of_row _ _ 1 _ _ (0, 0) (heap_alloc_new w _)]; rfl
  have q2 : (w.alloc (.cells #[.string s0, .slice (some ⟨g1, 0, none⟩) n1 n1, .slice (some ⟨g2, 0, none⟩) n2 n2, .slice (some ⟨g3, 0, none⟩) n3 n3, .string s4, .slice (some ⟨g4, 0, none⟩) n4 n4] 27)).cell? ⟨w.heap.size, 2, none⟩ = some (.slice (some ⟨g2, 0, none⟩) n2 n2) := by rw [cell_of_row _ _ 2 _ _ (0, 0) (heap_alloc_new w _)]; rfl
  have A0 : Hid (Later w (w.alloc (.cells #[.string s0, .slice (some ⟨g1, 0, none⟩) n1 n1, .slice (some ⟨g2, 0, none⟩) n2 n2, .slice (some ⟨g3, 0, none⟩) n3 n3, .string s4, .slice (some ⟨g4, 0, none⟩) n4 n4] 27))) := Lib.hid ((Later.refl _).alloc _)
  clear h1 h2 h3 b1 b2 b3 b4 b5
  go_enter Tryd.func118, Tryd.ntmps118
  go_wp2_with (go_at_call 76; refine (HC.out _ _ _ A0.out (by first | rfl | exact World.size_alloc _ _)).mono ?_; rintro e w1 ⟨u, rfl, ho, hb⟩; have O1 := Lib.hid ho; have B1 := Lib.hid hb; clear ho hb)
  go_ret
  exact RetN.lift ⟨u, rfl, O1.out, B1.out⟩ A0.out
theorem nmV_take (M : List Lne) (k : Nat) (h : k < M.length) : nmV (M.take (k + 1)) = nmV (M.take k) ++ nmT (lrx M k) := by
  rw [List.take_succ_eq_append_getElem h, lx_at M k h]
  simp [nmV]
theorem nmT_take (L : List Trm) (j : Nat) (h : j < L.length) : nmT (L.take (j + 1)) = if rkx L j = 1 then nmT (L.take j) ++ [rsx L j] else nmT (L.take j) := by
  rw [List.take_succ_eq_append_getElem h, rk_at L j h]
  unfold nmT
  rw [List.filter_append, List.map_append]
  by_cases e : rkx L j = 1 <;> simp [e]
theorem nmT_len (L : List Trm) : (nmT L).length ≤ L.length := by
  unfold nmT; rw [List.length_map]; exact List.length_filter_le _ _
theorem nmV_len (M : List Lne) (h : ∀ j, j < M.length → (lrx M j).length ≤ 40) : ∀ k, k ≤ M.length → (nmV (M.take k)).length ≤ 40 * k
  | 0, _ => by simp [nmV]
  | k + 1, hk => by
    rw [nmV_take M k hk, List.length_append]
    have := nmV_len M h k (by omega)
    have h1 := nmT_len (lrx M k)
    have h2 := h k hk
    omega
theorem i_used (v : Value) (p : Prg) (w : World) (hp : PgV w v p) (hb : Wb p) : Calls Tryd.prog 121 #[v] w (RetTs w (nmV p.lns)) := by
  obtain ⟨a1, c1, a2, c2, a3, c3, a4, c4, rfl, h1, h2, h3, h4, h5, h6⟩ := hp
  have P4 := Lib.hid h4
  have HK := Lib.hid (fun k h => nmV_take p.lns k h)
  have HF : Hid (nmV (p.lns.take p.lns.length) = nmV p.lns) := Lib.hid (by rw [List.take_length])
  have HZ : Hid (∀ k, k ≤ p.lns.length → (nmV (p.lns.take k)).length ≤ 40 * k) := Lib.hid (nmV_len p.lns (fun j h => hb.len j h))
  have HB := Lib.hid (fun j h => hb.len j h)
  have hl : p.lns.length ≤ 40 := hb.2.2.2.2.2.1
  clear h1 h2 h3 h4 h5 h6 hb
  obtain ⟨s0, hs0⟩ : ∃ q, q = tx p.nm := ⟨_, rfl⟩
  obtain ⟨s4, hs4⟩ : ∃ q, q = tx p.grd := ⟨_, rfl⟩
  obtain ⟨n1, hn1⟩ : ∃ q, q = p.ins.length := ⟨_, rfl⟩
  obtain ⟨n2, hn2⟩ : ∃ q, q = p.vrs.length := ⟨_, rfl⟩
  obtain ⟨n3, hn3⟩ : ∃ q, q = p.outs.length := ⟨_, rfl⟩
  obtain ⟨n4, hn4⟩ : ∃ q, q = p.lns.length := ⟨_, rfl⟩
  simp only [← hs0, ← hs4, ← hn1, ← hn2, ← hn3, ← hn4] at P4 HK HF HZ HB hl ⊢
  generalize p.lns = M at *
  clear hs0 hs4 hn1 hn2 hn3 hn4
  have q5 : (w.alloc (.cells #[.string s0, .slice a1 n1 c1, .slice a2 n2 c2, .slice a3 n3 c3, .string s4, .slice a4 n4 c4] 27)).cell? ⟨w.heap.size, 5, none⟩ = some (.slice a4 n4 c4) := by rw [cell_of_row _ _ 5 _ _ (0, 0) (heap_alloc_new w _)]; rfl
  have A0 : Hid (Later w (w.alloc (.cells #[.string s0, .slice a1 n1 c1, .slice a2 n2 c2, .slice a3 n3 c3, .string s4, .slice a4 n4 c4] 27))) := Lib.hid ((Later.refl _).alloc _)
  go_enter Tryd.func121, Tryd.ntmps121
  go_wp2_with fail
  generalize (w.alloc (.cells #[.string s0, .slice a1 n1 c1, .slice a2 n2 c2, .slice a3 n3 c3, .string s4, .slice a4 n4 c4] 27)) = W0 at A0 q5 ⊢
  go_loopw [3, 11] (fun s i wr => ∃ k : Nat, k ≤ n4 ∧ i = .int .i64 k ∧ OwnT wr w.heap.size s (nmV (M.take k)) ∧ Later w wr) (fun _ i _ => n4 - (intOf i).toNat)
  case atStart => exact ⟨0, by omega, rfl, ⟨rfl, .inl ⟨rfl, rfl⟩⟩, A0.out⟩
  case round =>
    clear q5
    obtain ⟨k, hk, rfl, ho, hb⟩ := hrel
    have B3 := Lib.hid hb
    have O3 := Lib.hid ho
    clear ho
    by_cases hlt : k < n4
    · obtain ⟨b, off, ta, tc, rfl, c00, c01, c2⟩ := P4.out.2.2.1 k hlt
      have c0 : wr.cell? ⟨b, off + k * 2, none⟩ = some (.string (tx (ltx M k))) := by rw [hb.cell (p := ⟨b, off + k * 2, none⟩) (cell_lt c00)]; exact c00
      have c1 : wr.cell? ⟨b, off + k * 2 + 1, none⟩ = some (.slice ta (lrx M k).length tc) := by rw [hb.cell (p := ⟨b, off + k * 2 + 1, none⟩) (cell_lt c01)]; exact c01
      have HE := Lib.hid (HK.out k hlt)
      have hz := HZ.out k hk
      have h40 := HB.out k hlt
      have HS := Lib.hid c2
      generalize ltx M k = yy at c0
      obtain ⟨Y, hY⟩ : ∃ Y, Y = tx yy := ⟨_, rfl⟩
      rw [← hY] at c0
      generalize lrx M k = L at *
      have HJ := Lib.hid (fun j h => nmT_take L j h)
      have HLF : Hid (nmT (L.take L.length) = nmT L) := Lib.hid (by rw [List.take_length])
      have HQ := Lib.hid (fun j => nmT_len (L.take j))
      generalize nmV (M.take k) = T0 at O3 HE hz
      obtain ⟨q, hq⟩ : ∃ q, q = L.length := ⟨_, rfl⟩
      rw [← hq] at c1 h40 HS HJ HLF
      clear c00 c01 c2 hb hY hq
      go_wp2_with fail
      go_loopw [3, 18] (fun s i w5 => ∃ j : Nat, j ≤ q ∧ i = .int .i64 j ∧ OwnT w5 w.heap.size s (T0 ++ nmT (L.take j)) ∧ Later w w5) (fun _ i _ => q - (intOf i).toNat)
      case atStart => exact ⟨0, by omega, rfl, by simpa [nmT] using O3.out.later (by repeat (first | (with_reducible exact Later.refl _) | (with_reducible exact Hid.out (by assumption)) | (with_reducible refine Later.alloc ?_ _) | (with_reducible refine Later.setCell ?_ (by simp; omega) _) | (with_reducible refine Later.setCell ?_ (by simp) _) | (with_reducible refine Later.drewN ?_ _) | (with_reducible refine Later.drew ?_) | (with_reducible refine Later.trans ?_ (Hid.out (by assumption))))), Later.trans B3.out (by repeat (first | (with_reducible exact Later.refl _) | (with_reducible exact Hid.out (by assumption)) | (with_reducible refine Later.alloc ?_ _) | (with_reducible refine Later.setCell ?_ (by simp; omega) _) | (with_reducible refine Later.setCell ?_ (by simp) _) | (with_reducible refine Later.drewN ?_ _) | (with_reducible refine Later.drew ?_) | (with_reducible refine Later.trans ?_ (Hid.out (by assumption)))))⟩
      case round =>
        clear c0 c1
        obtain ⟨j, hj, rfl, ho, hb⟩ := hrel
        have B5 := Lib.hid hb
        have O5 := Lib.hid ho
        clear ho
        by_cases hlt2 : j < q
        · obtain ⟨b2, off2, rfl, d0, d1, d2⟩ := (HS.out.later hb).2.2.1 j hlt2
          have HJ2 := Lib.hid (HJ.out j hlt2)
          have hqq : (T0 ++ nmT (L.take j)).length ≤ 100000 := by have := HQ.out j; rw [List.length_append]; simp at this; omega
          have HQQ := Lib.hid hqq
          obtain ⟨y, hy⟩ : ∃ y, y = rsx L j := ⟨_, rfl⟩
          rw [← hy] at d1 HJ2
          obtain ⟨X, hX⟩ : ∃ X, X = tx y := ⟨_, rfl⟩
          rw [← hX] at d1
          have HX := Lib.hid hX
          generalize rkx L j = kd at d0 HJ2
          generalize rnx L j = nb at d2
          generalize nmT (L.take j) = T1 at *
          clear hy hX hb hqq
          by_cases he : kd = 1
          · subst he
            have HJ3 := HJ2.out
            rw [if_pos rfl] at HJ3
            have HE3 := Lib.hid HJ3
            clear HJ3
            go_wp2_with (at_builtin; go_must (rw [HX.out]; refine app1T rfl _ _ rfl w.heap.size _ _ _ (T0 ++ T1) y (O5.out.later (by repeat (first | (with_reducible exact Later.refl _) | (with_reducible exact Hid.out (by assumption)) | (with_reducible refine Later.alloc ?_ _) | (with_reducible refine Later.setCell ?_ (by simp; omega) _) | (with_reducible refine Later.setCell ?_ (by simp) _) | (with_reducible refine Later.drewN ?_ _) | (with_reducible refine Later.drew ?_) | (with_reducible refine Later.trans ?_ (Hid.out (by assumption)))))) rfl (by first | rfl | (simp only [World.heap_drewN, World.size_alloc]; rfl)) (by have := HQQ.out; omega) (Later.size (by repeat (first | (with_reducible exact Later.refl _) | (with_reducible exact Hid.out (by assumption)) | (with_reducible refine Later.alloc ?_ _) | (with_reducible refine Later.setCell ?_ (by simp; omega) _) | (with_reducible refine Later.setCell ?_ (by simp) _) | (with_reducible refine Later.drewN ?_ _) | (with_reducible refine Later.drew ?_) | (with_reducible refine Later.trans ?_ (Hid.out (by assumption)))))) ?_; intro v6 w6 ho hgr))
            have O6 := Lib.hid ho
            rw [List.append_assoc, ← HE3.out] at O6
            have B6 : Hid (Later w w6) := Lib.hid (Below.grown (show Later w _ from (by repeat (first | (with_reducible exact Later.refl _) | (with_reducible exact Hid.out (by assumption)) | (with_reducible refine Later.alloc ?_ _) | (with_reducible refine Later.setCell ?_ (by simp; omega) _) | (with_reducible refine Later.setCell ?_ (by simp) _) | (with_reducible refine Later.drewN ?_ _) | (with_reducible refine Later.drew ?_) | (with_reducible refine Later.trans ?_ (Hid.out (by assumption)))))) hgr (Later.size (by repeat (first | (with_reducible exact Later.refl _) | (with_reducible exact Hid.out (by assumption)) | (with_reducible refine Later.alloc ?_ _) | (with_reducible refine Later.setCell ?_ (by simp; omega) _) | (with_reducible refine Later.setCell ?_ (by simp) _) | (with_reducible refine Later.drewN ?_ _) | (with_reducible refine Later.drew ?_) | (with_reducible refine Later.trans ?_ (Hid.out (by assumption)))))) (fun j hj => (O5.out.lt j hj).1))
            clear ho hgr
            go_roundw
            case rel => exact ⟨j + 1, by omega, by go_num, O6.out, B6.out⟩
            case measure => simp [intOf]; omega
          · have HJ3 := HJ2.out
            rw [if_neg he] at HJ3
            have HE3 := Lib.hid HJ3
            have hne : (kd == 1) = false := by simpa using he
            clear HJ3 he
            go_wp2_with fail
            go_roundw
            case rel => exact ⟨j + 1, by omega, by go_num, by rw [HE3.out]; exact O5.out.later (by repeat (first | (with_reducible exact Later.refl _) | (with_reducible exact Hid.out (by assumption)) | (with_reducible refine Later.alloc ?_ _) | (with_reducible refine Later.setCell ?_ (by simp; omega) _) | (with_reducible refine Later.setCell ?_ (by simp) _) | (with_reducible refine Later.drewN ?_ _) | (with_reducible refine Later.drew ?_) | (with_reducible refine Later.trans ?_ (Hid.out (by assumption))))), (by repeat (first | (with_reducible exact Later.refl _) | (with_reducible exact Hid.out (by assumption)) | (with_reducible refine Later.alloc ?_ _) | (with_reducible refine Later.setCell ?_ (by simp; omega) _) | (with_reducible refine Later.setCell ?_ (by simp) _) | (with_reducible refine Later.drewN ?_ _) | (with_reducible refine Later.drew ?_) | (with_reducible refine Later.trans ?_ (Hid.out (by assumption)))))⟩
            case measure => simp [intOf]; omega
        · obtain rfl : j = q := by omega
          have O7 : Hid (OwnT wr w.heap.size _ (T0 ++ nmT L)) := Lib.hid (by have h := O5.out; rw [HLF.out] at h; exact h)
          rw [← HE.out] at O7
          clear hb
          go_wp2_with fail
          go_roundw
          case rel => exact ⟨k + 1, by omega, by go_num, O7.out, B5.out⟩
          case measure => simp [intOf]; omega
    · obtain rfl : k = n4 := by omega
      clear hb
      go_wp2_with fail
      go_ret
      exact ⟨_, rfl, by rw [← HF.out]; exact O3.out, B3.out⟩
end Go.Proofs.YtokipobjpinhmaaDoor
namespace Go.Proofs.YtokipobjpinhmaaDoor
open Go.RowKit Go.Shelf
set_option maxHeartbeats 4000000
set_option maxRecDepth 100000
set_option linter.unusedVariables false
set_option linter.unusedSimpArgs false
theorem s_Index (a : Option Addr) (n cap : Nat) (W : List (List UInt8)) (x : List UInt8) (w : World) (hs : Sts w a n W) :
    Calls Tryd.prog 72 #[.slice a n cap, .string (tx x)] w fun e w' => e = .returned (.int .i64 (ixV W x)) ∧ w = w' := by
  have HS := Lib.hid hs
  have HL := Lib.hid hs.1
  have hn := hs.2.1
  have EQ := Lib.hid (fun y => eqx y x)
  have RH := Lib.hid (fun j h1 h2 h3 => ixV_hit W x j h1 h2 h3)
  have RM := Lib.hid (fun h => ixV_miss W x h)
  obtain ⟨X, hX⟩ : ∃ X, X = tx x := ⟨_, rfl⟩
  rw [← hX] at EQ ⊢
  clear hs hX
  go_enter Tryd.func72, Tryd.ntmps72
  go_wp2_with fail
  go_loop [5] (fun i => ∃ k : Nat, k ≤ n ∧ i = .int .i64 k ∧ Hid (∀ j, j < k → wx W j ≠ x)) (fun i => n - (intOf i).toNat)
  case atStart => exact ⟨0, by omega, rfl, Lib.hid (by intro j h; omega)⟩
  case round =>
    obtain ⟨k, hk, rfl, HI⟩ := hrel
    by_cases hlt : k < n
    · obtain ⟨b, off, rfl, c0⟩ := HS.out.at k hlt
      have EK := EQ.out (wx W k)
      obtain ⟨y, hy⟩ : ∃ y, y = tx (wx W k) := ⟨_, rfl⟩
      rw [← hy] at c0 EK
      clear hy
      by_cases he : wx W k = x
      · rw [decide_eq_true he] at EK
        have HR := Lib.hid (RH.out k (by rw [HL.out]; exact hlt) he HI.out)
        clear he
        go_wp2_with fail
        all_goals
          go_ret
          exact ⟨by rw [HR.out]; rfl, rfl⟩
      · rw [decide_eq_false he] at EK
        have HE := Lib.hid he
        clear he
        go_wp2_with fail
        go_roundw
        case rel =>
          refine ⟨k + 1, by omega, by go_num, Lib.hid ?_⟩
          intro q hq
          rcases Nat.lt_or_ge q k with h1 | h1
          · exact HI.out q h1
          · obtain rfl : q = k := by omega
            exact HE.out
        case measure => simp [intOf]; omega
    · obtain rfl : k = n := by omega
      have HR := Lib.hid (RM.out (by rw [HL.out]; exact HI.out))
      go_wp2_with fail
      all_goals
        go_ret
        exact ⟨by rw [HR.out]; rfl, rfl⟩
theorem wx_take (W : List (List UInt8)) (k j : Nat) (h : j < k) : wx (W.take k) j = wx W j := by
  unfold wx
  rw [List.getD_eq_getElem?_getD, List.getD_eq_getElem?_getD, List.getElem?_take, if_pos h]
theorem Stm.takeN {m : Nat} {w : World} {a : Option Addr} {n : Nat} {W : List (List UInt8)} (h : Stm m w a n W) (k : Nat) (hk : k ≤ n) : Stm m w a k (W.take k) := by
  refine ⟨by rw [List.length_take, h.1]; omega, by have := h.2.1; omega, fun j hj => ?_, fun x hx => h.2.2.2 x (List.mem_of_mem_take hx)⟩
  obtain ⟨b, off, e, hc⟩ := h.2.2.1 j (by omega)
  exact ⟨b, off, e, by rw [wx_take W k j hj]; exact hc⟩
theorem nodup_take_succ (W : List (List UInt8)) (k : Nat) (h : k < W.length) (hn : (W.take k).Nodup) (hm : wx W k ∉ W.take k) : (W.take (k + 1)).Nodup := by
  rw [take_wx W k h, List.nodup_append]
  exact ⟨hn, by simp, fun a ha b hb => by simp at hb; intro e; subst e; subst hb; exact hm ha⟩
theorem nodup_bad (W : List (List UInt8)) (k : Nat) (h : k < W.length) (hm : wx W k ∈ W.take k) : ¬ W.Nodup := by
  intro hn
  have h2 : (W.take (k + 1)).Nodup := hn.sublist (List.take_sublist _ _)
  rw [take_wx W k h, List.nodup_append] at h2
  exact h2.2.2 _ hm _ (by simp) rfl
theorem s_Twice (a : Option Addr) (n cap : Nat) (W : List (List UInt8)) (w : World) (hs : Sts w a n W) (hc : n ≤ cap) (hcm : cap ≤ 9223372036854775807) (hn0 : ∃ b, a = some ⟨b, 0, none⟩) :
    Calls Tryd.prog 99 #[.slice a n cap] w fun e w' => e = .returned (.bool (!decide W.Nodup)) ∧ Later w w' := by
  obtain ⟨b0, rfl⟩ := hn0
  have HS := Lib.hid hs
  have HL := Lib.hid hs.1
  have hn := hs.2.1
  have HT := Lib.hid (fun k (h : k ≤ n) => hs.takeN k h)
  have HG := Lib.hid (fun k h1 h2 h3 => nodup_take_succ W k h1 h2 h3)
  have HB := Lib.hid (fun k h1 h2 => nodup_bad W k h1 h2)
  have HF : Hid ((W.take n).Nodup → W.Nodup) := Lib.hid (by rw [List.take_of_length_le (by rw [hs.1]; exact Nat.le_refl _)]; exact id)
  clear hs
  go_enter Tryd.func99, Tryd.ntmps99
  go_wp2_with fail
  go_loopw [3] (fun i wr => ∃ k : Nat, k ≤ n ∧ i = .int .i64 k ∧ Later w wr ∧ Hid ((W.take k).Nodup)) (fun i _ => n - (intOf i).toNat)
  case atStart => exact ⟨0, by omega, rfl, Later.refl _, Lib.hid (by simp)⟩
  case round =>
    obtain ⟨k, hk, rfl, hb, HI⟩ := hrel
    have B3 := Lib.hid hb
    by_cases hlt : k < n
    · obtain ⟨b, off, e, c0⟩ := (HS.out.later hb).at k hlt
      clear hb
      cases e
      rw [Nat.zero_add] at c0
      have HX := Lib.hid (HT.out k hk)
      have HM := Lib.hid (ixV_mem (W.take k) (wx W k))
      have SI : Hid (∀ V, Later w V → Calls Tryd.prog 72 #[.slice (some ⟨b0, 0, none⟩) k cap, .string (tx (wx W k))] V fun e w' => e = .returned (.int .i64 (ixV (W.take k) (wx W k))) ∧ w' = V) := Lib.hid (fun V h => (s_Index _ k cap (W.take k) (wx W k) V (HX.out.later h)).mono fun _ _ q => ⟨q.1, q.2.symm⟩)
      generalize ixV (W.take k) (wx W k) = r at HM SI
      have HG2 := Lib.hid (HG.out k (by rw [HL.out]; exact hlt) HI.out)
      have HB2 := Lib.hid (HB.out k (by rw [HL.out]; exact hlt))
      have HM2 : Hid ((0 ≤ r → wx W k ∈ W.take k) ∧ (wx W k ∈ W.take k → 0 ≤ r)) := Lib.hid ⟨HM.out.1, HM.out.2⟩
      obtain ⟨y, hy⟩ : ∃ y, y = tx (wx W k) := ⟨_, rfl⟩
      rw [← hy] at c0 SI
      clear hy HM
      have hkc : k ≤ cap := by omega
      by_cases hr : 0 ≤ r
      · have HD : Hid (decide W.Nodup = false) := Lib.hid (decide_eq_false (HB2.out (HM2.out.1 hr)))
        go_wp2_with fail
        go_quiet ((go_at_call 72; exact Calls.quiet_of_same (SI.out _ (B3.out.drewN _))))
        all_goals
          go_wp2
          go_ret
          exact ⟨by rw [HD.out]; rfl, B3.out.drewN _⟩
      · have HD := Lib.hid (HG2.out (fun h => hr (HM2.out.2 h)))
        go_wp2_with fail
        go_quiet ((go_at_call 72; exact Calls.quiet_of_same (SI.out _ (B3.out.drewN _))))
        all_goals
          go_wp2
          go_roundw
          case rel => exact ⟨k + 1, by omega, by go_num, B3.out.drewN _, HD⟩
          case measure => simp [intOf]; omega
    · obtain rfl : k = n := by omega
      have HD : Hid (decide W.Nodup = true) := Lib.hid (decide_eq_true (HF.out HI.out))
      go_wp2_with fail
      all_goals
        go_ret
        exact ⟨by rw [HD.out]; rfl, B3.out⟩
theorem s_Readable (v : Value) (p : Prg) (x : List UInt8) (w : World) (hp : PgV w v p) :
    Calls Tryd.prog 100 #[v, .string (tx x)] w fun e w' => e = .returned (.bool (decide (x ∈ p.ins ++ p.vrs))) ∧ Later w w' := by
  obtain ⟨a1, c1, a2, c2, a3, c3, a4, c4, rfl, h1, h2, h3, h4, h5, h6⟩ := hp
  have I1 := Lib.hid (fun W (h : Later w W) => s_Index a1 p.ins.length c1 p.ins x W (h1.later h))
  have I2 := Lib.hid (fun W (h : Later w W) => s_Index a2 p.vrs.length c2 p.vrs x W (h2.later h))
  have HV : Hid (decide (x ∈ p.ins ++ p.vrs) = (decide (0 ≤ ixV p.ins x) || decide (0 ≤ ixV p.vrs x))) := Lib.hid (by
    rw [decide_eq_decide.2 (ixV_mem p.ins x), decide_eq_decide.2 (ixV_mem p.vrs x), ← Bool.decide_or]
    exact decide_eq_decide.2 List.mem_append)
  clear h1 h2 h3 h4 h5 h6
  obtain ⟨X, hX⟩ : ∃ X, X = tx x := ⟨_, rfl⟩
  rw [← hX] at I1 I2 ⊢
  generalize decide (x ∈ p.ins ++ p.vrs) = V at HV ⊢
  generalize ixV p.ins x = r1 at I1 HV
  generalize ixV p.vrs x = r2 at I2 HV
  obtain ⟨s0, hs0⟩ : ∃ q, q = tx p.nm := ⟨_, rfl⟩
  obtain ⟨s4, hs4⟩ : ∃ q, q = tx p.grd := ⟨_, rfl⟩
  obtain ⟨n1, hn1⟩ : ∃ q, q = p.ins.length := ⟨_, rfl⟩
  obtain ⟨n2, hn2⟩ : ∃ q, q = p.vrs.length := ⟨_, rfl⟩
  obtain ⟨n3, hn3⟩ : ∃ q, q = p.outs.length := ⟨_, rfl⟩
  obtain ⟨n4, hn4⟩ : ∃ q, q = p.lns.length := ⟨_, rfl⟩
  simp only [← hs0, ← hs4, ← hn1, ← hn2, ← hn3, ← hn4] at I1 I2 ⊢
  clear hs0 hs4 hn1 hn2 hn3 hn4 hX
  have q0 : (w.alloc (.cells #[.string s0, .slice a1 n1 c1, .slice a2 n2 c2, .slice a3 n3 c3, .string s4, .slice a4 n4 c4] 27)).cell? ⟨w.heap.size, 0, none⟩ = some (.string s0) := by rw [cell_of_row _ _ 0 _ _ (0, 0) (heap_alloc_new w _)]; rfl
  have q1 : (w.alloc (.cells #[.string s0, .slice a1 n1 c1, .slice a2 n2 c2, .slice a3 n3 c3, .string s4, .slice a4 n4 c4] 27)).cell? ⟨w.heap.size, 1, none⟩ = some (.slice a1 n1 c1) := by rw [cell_of_row _ _ 1 _ _ (0, 0) (heap_alloc_new w _)]; rfl
  have q2 : (w.alloc (.cells #[.string s0, .slice a1 n1 c1, .slice a2 n2 c2, .slice a3 n3 c3, .string s4, .slice a4 n4 c4] 27)).cell? ⟨w.heap.size, 2, none⟩ = some (.slice a2 n2 c2) := by rw [cell_of_row _ _ 2 _ _ (0, 0) (heap_alloc_new w _)]; rfl
  have q3 : (w.alloc (.cells #[.string s0, .slice a1 n1 c1, .slice a2 n2 c2, .slice a3 n3 c3, .string s4, .slice a4 n4 c4] 27)).cell? ⟨w.heap.size, 3, none⟩ = some (.slice a3 n3 c3) := by rw [cell_of_row _ _ 3 _ _ (0, 0) (heap_alloc_new w _)]; rfl
  have q4 : (w.alloc (.cells #[.string s0, .slice a1 n1 c1, .slice a2 n2 c2, .slice a3 n3 c3, .string s4, .slice a4 n4 c4] 27)).cell? ⟨w.heap.size, 4, none⟩ = some (.string s4) := by rw [cell_of_row _ _ 4 _ _ (0, 0) (heap_alloc_new w _)]; rfl
  have q5 : (w.alloc (.cells #[.string s0, .slice a1 n1 c1, .slice a2 n2 c2, .slice a3 n3 c3, .string s4, .slice a4 n4 c4] 27)).cell? ⟨w.heap.size, 5, none⟩ = some (.slice a4 n4 c4) := by rw [cell_of_row _ _ 5 _ _ (0, 0) (heap_alloc_new w _)]; rfl
  have hW0 : w.heap.size < (w.alloc (.cells #[.string s0, .slice a1 n1 c1, .slice a2 n2 c2, .slice a3 n3 c3, .string s4, .slice a4 n4 c4] 27)).heap.size := by rw [World.size_alloc]; exact Nat.lt_succ_self _
  have C0 : Hid (∀ W', Later (w.alloc (.cells #[.string s0, .slice a1 n1 c1, .slice a2 n2 c2, .slice a3 n3 c3, .string s4, .slice a4 n4 c4] 27)) W' → W'.cell? ⟨w.heap.size, 0, none⟩ = some (.string s0) ∧ W'.cell? ⟨w.heap.size, 1, none⟩ = some (.slice a1 n1 c1) ∧ W'.cell? ⟨w.heap.size, 2, none⟩ = some (.slice a2 n2 c2) ∧ W'.cell? ⟨w.heap.size, 3, none⟩ = some (.slice a3 n3 c3) ∧ W'.cell? ⟨w.heap.size, 4, none⟩ = some (.string s4) ∧ W'.cell? ⟨w.heap.size, 5, none⟩ = some (.slice a4 n4 c4)) := Lib.hid (fun W' q => ⟨by rw [q.cell (p := ⟨w.heap.size, 0, none⟩) hW0]; exact q0, by rw [q.cell (p := ⟨w.heap.size, 1, none⟩) hW0]; exact q1, by rw [q.cell (p := ⟨w.heap.size, 2, none⟩) hW0]; exact q2, by rw [q.cell (p := ⟨w.heap.size, 3, none⟩) hW0]; exact q3, by rw [q.cell (p := ⟨w.heap.size, 4, none⟩) hW0]; exact q4, by rw [q.cell (p := ⟨w.heap.size, 5, none⟩) hW0]; exact q5⟩)
  have A0 : Hid (Later w (w.alloc (.cells #[.string s0, .slice a1 n1 c1, .slice a2 n2 c2, .slice a3 n3 c3, .string s4, .slice a4 n4 c4] 27))) := Lib.hid ((Later.refl _).alloc _)
  clear hW0
  have I1 := Lib.hid (I1.out _ A0.out)
  have I2 := Lib.hid (I2.out _ A0.out)
  clear C0
  by_cases hr : 0 ≤ r1
  · have HV2 : Hid (V = true) := Lib.hid (by rw [HV.out, decide_eq_true hr]; rfl)
    go_enter Tryd.func100, Tryd.ntmps100
    go_wp2_with (go_at_call 72; refine I1.out.mono ?_; rintro e w' ⟨rfl, rfl⟩)
    all_goals
      go_ret
      exact ⟨by rw [HV2.out]; rfl, A0.out⟩
  · have hd : decide (0 ≤ r1) = false := decide_eq_false hr
    by_cases hr2 : 0 ≤ r2
    · have HV2 : Hid (V = true) := Lib.hid (by rw [HV.out, decide_eq_true hr2]; simp)
      have hd2 : decide (0 ≤ r2) = true := decide_eq_true hr2
      go_enter Tryd.func100, Tryd.ntmps100
      go_wp2_with (first | (go_at_call_of 72 a1; refine I1.out.mono ?_; rintro e w' ⟨rfl, rfl⟩) | (go_at_call_of 72 a2; refine I2.out.mono ?_; rintro e w' ⟨rfl, rfl⟩))
      all_goals
        go_ret
        exact ⟨by rw [HV2.out]; rfl, A0.out⟩
    · have HV2 : Hid (V = false) := Lib.hid (by rw [HV.out, hd, decide_eq_false hr2]; rfl)
      have hd2 : decide (0 ≤ r2) = false := decide_eq_false hr2
      go_enter Tryd.func100, Tryd.ntmps100
      go_wp2_with (first | (go_at_call_of 72 a1; refine I1.out.mono ?_; rintro e w' ⟨rfl, rfl⟩) | (go_at_call_of 72 a2; refine I2.out.mono ?_; rintro e w' ⟨rfl, rfl⟩))
      all_goals
        go_ret
        exact ⟨by rw [HV2.out]; rfl, A0.out⟩
theorem ownT_newN (w : World) (base : Nat) (h : base ≤ w.heap.size) : OwnT (w.alloc (.cells #[] 9)) base (.slice (some ⟨w.heap.size, 0, none⟩) 0 0) [] :=
  World.ownsRow_made w #[] 0 h (by unfold maxLen; omega) (by simp)
theorem s_All (base : Nat) (v : Value) (p : Prg) (w : World) (hp : PgC base w v p) (hb : Wb p) : Calls Tryd.prog 73 #[v] w (RetTs w (p.ins ++ p.vrs ++ p.outs)) := by
  obtain ⟨g1, g2, g3, g4, rfl, _, ⟨h1, _⟩, ⟨h2, _⟩, ⟨h3, _⟩, _, _, _⟩ := hp
  obtain ⟨b1, b2, b3, b4, b5, _, _⟩ := hb
  have S1 := Lib.hid h1; have S2 := Lib.hid h2; have S3 := Lib.hid h3
  have L1 : p.ins.length ≤ 20 := b3
  have L2 : (p.ins ++ p.vrs).length ≤ 40 := by rw [List.length_append]; omega
  have E1 : Hid (([] : List (List UInt8)) ++ p.ins = p.ins) := Lib.hid rfl
  obtain ⟨s0, hs0⟩ : ∃ q, q = tx p.nm := ⟨_, rfl⟩
  obtain ⟨s4, hs4⟩ : ∃ q, q = tx p.grd := ⟨_, rfl⟩
  obtain ⟨n1, hn1⟩ : ∃ q, q = p.ins.length := ⟨_, rfl⟩
  obtain ⟨n2, hn2⟩ : ∃ q, q = p.vrs.length := ⟨_, rfl⟩
  obtain ⟨n3, hn3⟩ : ∃ q, q = p.outs.length := ⟨_, rfl⟩
  obtain ⟨n4, hn4⟩ : ∃ q, q = p.lns.length := ⟨_, rfl⟩
  simp only [← hs0, ← hs4, ← hn1, ← hn2, ← hn3, ← hn4] at S1 S2 S3 b1 b2 b3 b4 b5 ⊢
  clear hs0 hs4 hn1 hn2 hn3 hn4 h1 h2 h3
  have q1 : (w.alloc (.cells #[.string s0, .slice (some ⟨g1, 0, none⟩) n1 n1, .slice (some ⟨g2, 0, none⟩) n2 n2, .slice (some ⟨g3, 0, none⟩) n3 n3, .string s4, .slice (some ⟨g4, 0, none⟩) n4 n4] 27)).cell? ⟨w.heap.size, 1, none⟩ = some (.slice (some ⟨g1, 0, none⟩) n1 n1) := by rw [cell_of_row _ _ 1 _ _ (0, 0) (heap_alloc_new w _)]; rfl
  have q2 : (w.alloc (.cells #[.string s0, .slice (some ⟨g1, 0, none⟩) n1 n1, .slice (some ⟨g2, 0, none⟩) n2 n2, .slice (some ⟨g3, 0, none⟩) n3 n3, .string s4, .slice (some ⟨g4, 0, none⟩) n4 n4] 27)).cell? ⟨w.heap.size, 2, none⟩ = some (.slice (some ⟨g2, 0, none⟩) n2 n2) := by rw [cell_of_row _ _ 2 _ _ (0, 0) (heap_alloc_new w _)]; rfl
  have q3 : (w.alloc (.cells #[.string s0, .slice (some ⟨g1, 0, none⟩) n1 n1, .slice (some ⟨g2, 0, none⟩) n2 n2, .slice (some ⟨g3, 0, none⟩) n3 n3, .string s4, .slice (some ⟨g4, 0, none⟩) n4 n4] 27)).cell? ⟨w.heap.size, 3, none⟩ = some (.slice (some ⟨g3, 0, none⟩) n3 n3) := by rw [cell_of_row _ _ 3 _ _ (0, 0) (heap_alloc_new w _)]; rfl
  have A0 : Hid (Later w (w.alloc (.cells #[.string s0, .slice (some ⟨g1, 0, none⟩) n1 n1, .slice (some ⟨g2, 0, none⟩) n2 n2, .slice (some ⟨g3, 0, none⟩) n3 n3, .string s4, .slice (some ⟨g4, 0, none⟩) n4 n4] 27))) := Lib.hid ((Later.refl _).alloc _)
  have hz : (w.alloc (.cells #[.string s0, .slice (some ⟨g1, 0, none⟩) n1 n1, .slice (some ⟨g2, 0, none⟩) n2 n2, .slice (some ⟨g3, 0, none⟩) n3 n3, .string s4, .slice (some ⟨g4, 0, none⟩) n4 n4] 27)).heap.size = w.heap.size + 1 := World.size_alloc _ _
  have ON : Hid (OwnT ((w.alloc (.cells #[.string s0, .slice (some ⟨g1, 0, none⟩) n1 n1, .slice (some ⟨g2, 0, none⟩) n2 n2, .slice (some ⟨g3, 0, none⟩) n3 n3, .string s4, .slice (some ⟨g4, 0, none⟩) n4 n4] 27)).alloc (.cells #[] 9)) (w.heap.size + 1) (.slice (some ⟨w.heap.size + 1, 0, none⟩) 0 0) []) := Lib.hid (by have h := ownT_newN (w.alloc (.cells #[.string s0, .slice (some ⟨g1, 0, none⟩) n1 n1, .slice (some ⟨g2, 0, none⟩) n2 n2, .slice (some ⟨g3, 0, none⟩) n3 n3, .string s4, .slice (some ⟨g4, 0, none⟩) n4 n4] 27)) (w.heap.size + 1) (by rw [World.size_alloc]; exact Nat.le_refl _); rwa [World.size_alloc] at h)
  have Q2 : Hid (((w.alloc (.cells #[.string s0, .slice (some ⟨g1, 0, none⟩) n1 n1, .slice (some ⟨g2, 0, none⟩) n2 n2, .slice (some ⟨g3, 0, none⟩) n3 n3, .string s4, .slice (some ⟨g4, 0, none⟩) n4 n4] 27)).alloc (.cells #[] 9)).cell? ⟨w.heap.size, 2, none⟩ = some (.slice (some ⟨g2, 0, none⟩) n2 n2)) := Lib.hid (by rw [World.cell?_alloc_lt _ _ ⟨w.heap.size, 2, none⟩ (by rw [hz]; exact Nat.lt_succ_self _)]; exact q2)
  have Q3 : Hid (((w.alloc (.cells #[.string s0, .slice (some ⟨g1, 0, none⟩) n1 n1, .slice (some ⟨g2, 0, none⟩) n2 n2, .slice (some ⟨g3, 0, none⟩) n3 n3, .string s4, .slice (some ⟨g4, 0, none⟩) n4 n4] 27)).alloc (.cells #[] 9)).cell? ⟨w.heap.size, 3, none⟩ = some (.slice (some ⟨g3, 0, none⟩) n3 n3)) := Lib.hid (by rw [World.cell?_alloc_lt _ _ ⟨w.heap.size, 3, none⟩ (by rw [hz]; exact Nat.lt_succ_self _)]; exact q3)
  have A1 : Hid (Later w ((w.alloc (.cells #[.string s0, .slice (some ⟨g1, 0, none⟩) n1 n1, .slice (some ⟨g2, 0, none⟩) n2 n2, .slice (some ⟨g3, 0, none⟩) n3 n3, .string s4, .slice (some ⟨g4, 0, none⟩) n4 n4] 27)).alloc (.cells #[] 9))) := Lib.hid (A0.out.alloc _)
  go_enter Tryd.func73, Tryd.ntmps73
  go_wp2_with (first
    | (at_builtin; refine appTm rfl _ _ rfl (w.heap.size + 1) _ _ [] p.ins g1 0 n1 n1 ON.out (S1.out.later A1.out) rfl rfl (by simp) (by omega) (by rw [World.size_alloc, World.size_alloc]; omega) ?_; intro v1 w1 ho hgr; have O1 := Lib.hid (E1.out ▸ ho); have B1 : Hid (Later w w1) := Lib.hid (Below.grown A1.out hgr A1.out.size (fun j hj => by cases hj; exact Nat.le_succ _)); have hs1 : w.heap.size + 1 ≤ w1.heap.size := Nat.le_trans (by rw [World.size_alloc, World.size_alloc]; omega) hgr.size; have R3 := Lib.hid (hgr.cell Q3.out (by simp [Value.ownBlock])); have q2 := hgr.cell Q2.out (by simp [Value.ownBlock]); clear ho hgr)
    | (at_builtin; refine appTm rfl _ _ rfl (w.heap.size + 1) _ _ p.ins p.vrs g2 0 n2 n2 O1.out (S2.out.later B1.out) rfl rfl (by omega) (by omega) hs1 ?_; intro v2 w2 ho hgr; have O2 := Lib.hid ho; have B2 : Hid (Later w w2) := Lib.hid (Below.grown B1.out hgr B1.out.size (fun j hj => Nat.le_trans (Nat.le_succ _) (O1.out.lt j hj).1)); have hs2 : w.heap.size + 1 ≤ w2.heap.size := Nat.le_trans hs1 hgr.size; have q3 := hgr.cell R3.out (fun e => by have := (O1.out.lt _ e.symm).1; simp at this; omega); clear ho hgr)
    | (at_builtin; refine appTm rfl _ _ rfl (w.heap.size + 1) _ _ (p.ins ++ p.vrs) p.outs g3 0 n3 n3 O2.out (S3.out.later B2.out) rfl rfl (by omega) (by omega) hs2 ?_; intro v3 w3 ho hgr; have O3 := Lib.hid ho; have B3 : Hid (Later w w3) := Lib.hid (Below.grown B2.out hgr B2.out.size (fun j hj => Nat.le_trans (Nat.le_succ _) (O2.out.lt j hj).1)); clear ho hgr))
  go_ret
  exact ⟨_, rfl, ownT_monoN O3.out (Nat.le_succ _), B3.out⟩
end Go.Proofs.YtokipobjpinhmaaDoor
namespace Go.Proofs.YtokipobjpinhmaaDoor
open Go.RowKit Go.Shelf Go.Maps
set_option maxHeartbeats 4000000
set_option maxRecDepth 100000
set_option linter.unusedVariables false
set_option linter.unusedSimpArgs false
theorem look_of {w : World} {b c : Nat} {S : List (List UInt8)} {x : List UInt8} {X : ByteArray} {g : Bool} (h : NSk w b c S) (hk : keyOf Tryd.prog 9 (.string X) = some (.string x)) (hat : (nsD (H := Unit) S).atKey (.string x) (.lit (.bool false)) = .lit (.bool g)) : (Instr.lookup TM (.map (some b)) (.string X) false).run Tryd.prog w = .ok (.bool g) w := by
  obtain ⟨v, ps, hrun, hv⟩ := World.ownsMap.lookup h lawN Tryd.underlying86 (zeroB w) (plainElem_bool Tryd.underlying4 false) hk
  obtain ⟨y, rfl, hy⟩ := plainElem_bool_inv Tryd.underlying4 hv
  rw [hat] at hy
  obtain rfl : g = y := by
    have := congrArg Prod.fst hy
    simpa using this
  exact hrun
/-- a slice of texts, handed back to be read -/
def RetSt (w : World) (S : List (List UInt8)) (e : Ending) (w' : World) : Prop := ∃ a n c, e = .returned (.slice a n c) ∧ n ≤ 1048576 ∧ Sts w' a n S ∧ Later w w'
theorem RetTs.st {w : World} {S : List (List UInt8)} (hl : S.length ≤ 1048576) (hs : ∀ x ∈ S, x.length ≤ 1048576) {e : Ending} {w' : World} (h : RetTs w S e w') : RetSt w S e w' := by
  obtain ⟨u, rfl, ho, hb⟩ := h
  obtain ⟨a, c, rfl, _, h1, _⟩ := ho.sts hs
  exact ⟨a, _, c, rfl, hl, h1, hb⟩
theorem nmV_short {w : World} {a : Option Addr} {n : Nat} {M : List Lne} (h : Lns w a n M) : ∀ x ∈ nmV M, x.length ≤ 1048576 := by
  intro x hx
  obtain ⟨y, hy, hx⟩ := List.mem_flatMap.1 hx
  obtain ⟨j, hj, rfl⟩ := List.mem_iff_getElem.1 hy
  obtain ⟨b, off, ta, tc, _, _, _, ht⟩ := h.2.2.1 j (by rw [← h.1]; exact hj)
  rw [lx_at M j hj] at hx
  obtain ⟨z, hz, rfl⟩ := List.mem_map.1 hx
  exact (ht.2.2.2 z (List.mem_filter.1 hz).1).2.1
theorem mem_app2 {A B : List (List UInt8)} (ha : ∀ x ∈ A, x.length ≤ 1048576) (hb : ∀ x ∈ B, x.length ≤ 1048576) : ∀ x ∈ A ++ B, x.length ≤ 1048576 := fun x hx => (List.mem_append.1 hx).elim (ha x) (hb x)
theorem PgV.shorts {w : World} {v : Value} {p : Prg} (h : PgV w v p) : (∀ x ∈ p.ins, x.length ≤ 1048576) ∧ (∀ x ∈ p.vrs, x.length ≤ 1048576) ∧ (∀ x ∈ p.outs, x.length ≤ 1048576) ∧ (∀ x ∈ tgs p.lns, x.length ≤ 1048576) ∧ (∀ x ∈ nmV p.lns, x.length ≤ 1048576) := by
  obtain ⟨a1, c1, a2, c2, a3, c3, a4, c4, _, h1, h2, h3, h4, _, _⟩ := h
  exact ⟨h1.2.2.2, h2.2.2.2, h3.2.2.2, tgs_short h4, nmV_short h4⟩
/-- the contracts of a program's methods, at every later world -/
structure Mth (w : World) (v : Value) (p : Prg) : Prop where
  dc : ∀ W, Later w W → Calls Tryd.prog 77 #[v] W (RetSt W (p.ins ++ p.vrs ++ p.outs))
  ac : ∀ W, Later w W → Calls Tryd.prog 119 #[v] W (RetSt W (p.vrs ++ p.outs))
  rc : ∀ W, Later w W → Calls Tryd.prog 118 #[v] W (RetN W (p.ins ++ p.vrs))
  tg : ∀ W, Later w W → Calls Tryd.prog 59 #[v] W (RetSt W (tgs p.lns))
  us : ∀ W, Later w W → Calls Tryd.prog 121 #[v] W (RetSt W (nmV p.lns))
theorem mth_of (base : Nat) (v : Value) (p : Prg) (w : World) (hp : PgC base w v p) (hb : Wb p) : Mth w v p := by
  obtain ⟨s1, s2, s3, s4, s5⟩ := hp.pgv.shorts
  obtain ⟨b1, b2, b3, b4, b5, h40, _⟩ := id hb
  have LT : (tgs p.lns).length ≤ 1048576 := by rw [tgs_len]; omega
  have LA : (p.vrs ++ p.outs).length ≤ 1048576 := by rw [List.length_append]; omega
  have LD : (p.ins ++ p.vrs ++ p.outs).length ≤ 1048576 := by rw [List.length_append, List.length_append]; omega
  have LU : (nmV p.lns).length ≤ 1048576 := by
    have := nmV_len p.lns (fun j h => hb.len j h) p.lns.length (Nat.le_refl _)
    rw [List.take_length] at this; omega
  exact {
    dc := fun W h => (i_declared base v p W (hp.later h) hb).mono fun _ _ q => RetTs.st LD (mem_app2 (mem_app2 s1 s2) s3) q
    ac := fun W h => (i_assignable base v p W (hp.later h) hb).mono fun _ _ q => RetTs.st LA (mem_app2 s2 s3) q
    rc := fun W h => i_readable base v p W (hp.later h) hb
    tg := fun W h => (i_targets v p W (hp.pgv.later h) (by omega)).mono fun _ _ q => RetTs.st LT s4 q
    us := fun W h => (i_used v p W (hp.pgv.later h) hb).mono fun _ _ q => RetTs.st LU s5 q }
theorem i_declaresNamesOnce (base : Nat) (v : Value) (p : Prg) (w : World) (hp : PgC base w v p) (hb : Wb p) : Calls Tryd.prog 90 #[v] w fun e w' => e = .returned (.bool (ru1 p)) ∧ Later w w' := by
  have MT := mth_of base v p w hp hb
  have DC := Lib.hid MT.dc; have AC := Lib.hid MT.ac; have RC := Lib.hid MT.rc; have TG := Lib.hid MT.tg; have US := Lib.hid MT.us
  obtain ⟨b1, b2, b3, b4, b5, b6, _⟩ := hb
  clear MT
  obtain ⟨a1, c1, a2, c2, a3, c3, a4, c4, rfl, _, _, _, _, _, _⟩ := hp.pgv
  clear hp b1 b2 b3 b4 b5 b6
  obtain ⟨s0, hs0⟩ : ∃ q, q = tx p.nm := ⟨_, rfl⟩
  obtain ⟨s4, hs4⟩ : ∃ q, q = tx p.grd := ⟨_, rfl⟩
  obtain ⟨n1, hn1⟩ : ∃ q, q = p.ins.length := ⟨_, rfl⟩
  obtain ⟨n2, hn2⟩ : ∃ q, q = p.vrs.length := ⟨_, rfl⟩
  obtain ⟨n3, hn3⟩ : ∃ q, q = p.outs.length := ⟨_, rfl⟩
  obtain ⟨n4, hn4⟩ : ∃ q, q = p.lns.length := ⟨_, rfl⟩
  simp only [← hs0, ← hs4, ← hn1, ← hn2, ← hn3, ← hn4] at DC AC RC TG US ⊢
  clear hs0 hs4 hn1 hn2 hn3 hn4
  have q0 : (w.alloc (.cells #[.string s0, .slice a1 n1 c1, .slice a2 n2 c2, .slice a3 n3 c3, .string s4, .slice a4 n4 c4] 27)).cell? ⟨w.heap.size, 0, none⟩ = some (.string s0) := by rw [cell_of_row _ _ 0 _ _ (0, 0) (heap_alloc_new w _)]; rfl
  have q1 : (w.alloc (.cells #[.string s0, .slice a1 n1 c1, .slice a2 n2 c2, .slice a3 n3 c3, .string s4, .slice a4 n4 c4] 27)).cell? ⟨w.heap.size, 1, none⟩ = some (.slice a1 n1 c1) := by rw [cell_of_row _ _ 1 _ _ (0, 0) (heap_alloc_new w _)]; rfl
  have q2 : (w.alloc (.cells #[.string s0, .slice a1 n1 c1, .slice a2 n2 c2, .slice a3 n3 c3, .string s4, .slice a4 n4 c4] 27)).cell? ⟨w.heap.size, 2, none⟩ = some (.slice a2 n2 c2) := by rw [cell_of_row _ _ 2 _ _ (0, 0) (heap_alloc_new w _)]; rfl
  have q3 : (w.alloc (.cells #[.string s0, .slice a1 n1 c1, .slice a2 n2 c2, .slice a3 n3 c3, .string s4, .slice a4 n4 c4] 27)).cell? ⟨w.heap.size, 3, none⟩ = some (.slice a3 n3 c3) := by rw [cell_of_row _ _ 3 _ _ (0, 0) (heap_alloc_new w _)]; rfl
  have q4 : (w.alloc (.cells #[.string s0, .slice a1 n1 c1, .slice a2 n2 c2, .slice a3 n3 c3, .string s4, .slice a4 n4 c4] 27)).cell? ⟨w.heap.size, 4, none⟩ = some (.string s4) := by rw [cell_of_row _ _ 4 _ _ (0, 0) (heap_alloc_new w _)]; rfl
  have q5 : (w.alloc (.cells #[.string s0, .slice a1 n1 c1, .slice a2 n2 c2, .slice a3 n3 c3, .string s4, .slice a4 n4 c4] 27)).cell? ⟨w.heap.size, 5, none⟩ = some (.slice a4 n4 c4) := by rw [cell_of_row _ _ 5 _ _ (0, 0) (heap_alloc_new w _)]; rfl
  have hW0 : w.heap.size < (w.alloc (.cells #[.string s0, .slice a1 n1 c1, .slice a2 n2 c2, .slice a3 n3 c3, .string s4, .slice a4 n4 c4] 27)).heap.size := by rw [World.size_alloc]; exact Nat.lt_succ_self _
  have C0 : Hid (∀ W', Later (w.alloc (.cells #[.string s0, .slice a1 n1 c1, .slice a2 n2 c2, .slice a3 n3 c3, .string s4, .slice a4 n4 c4] 27)) W' → W'.cell? ⟨w.heap.size, 0, none⟩ = some (.string s0) ∧ W'.cell? ⟨w.heap.size, 1, none⟩ = some (.slice a1 n1 c1) ∧ W'.cell? ⟨w.heap.size, 2, none⟩ = some (.slice a2 n2 c2) ∧ W'.cell? ⟨w.heap.size, 3, none⟩ = some (.slice a3 n3 c3) ∧ W'.cell? ⟨w.heap.size, 4, none⟩ = some (.string s4) ∧ W'.cell? ⟨w.heap.size, 5, none⟩ = some (.slice a4 n4 c4)) := Lib.hid (fun W' q => ⟨by rw [q.cell (p := ⟨w.heap.size, 0, none⟩) hW0]; exact q0, by rw [q.cell (p := ⟨w.heap.size, 1, none⟩) hW0]; exact q1, by rw [q.cell (p := ⟨w.heap.size, 2, none⟩) hW0]; exact q2, by rw [q.cell (p := ⟨w.heap.size, 3, none⟩) hW0]; exact q3, by rw [q.cell (p := ⟨w.heap.size, 4, none⟩) hW0]; exact q4, by rw [q.cell (p := ⟨w.heap.size, 5, none⟩) hW0]; exact q5⟩)
  have A0 : Hid (Later w (w.alloc (.cells #[.string s0, .slice a1 n1 c1, .slice a2 n2 c2, .slice a3 n3 c3, .string s4, .slice a4 n4 c4] 27))) := Lib.hid ((Later.refl _).alloc _)
  clear hW0
  go_enter Tryd.func90, Tryd.ntmps90
  go_wp2_with fail
  generalize (w.alloc (.cells #[.string s0, .slice a1 n1 c1, .slice a2 n2 c2, .slice a3 n3 c3, .string s4, .slice a4 n4 c4] 27)) = W0 at C0 A0 q0 q1 q2 q3 q4 q5 ⊢
  have B0 := A0
  have L0 := Lib.hid (Later.refl W0)
  refine (DC.out _ B0.out).mono ?_
  rintro e w1 ⟨u1, m1, k1, rfl, hn, hs, hb⟩
  have B1 := Lib.hid (Later.trans B0.out hb)
  have L1 := Lib.hid (Later.trans L0.out hb)
  have S1 := Lib.hid hs
  clear hb hs q0 q1 q2 q3 q4 q5
  have HV : Hid (ru1 p = decide (p.ins ++ p.vrs ++ p.outs).Nodup) := Lib.hid rfl
  have DI := Lib.hid (i_areDistinct u1 _ k1 (p.ins ++ p.vrs ++ p.outs) w1 S1.out hn)
  generalize decide (p.ins ++ p.vrs ++ p.outs).Nodup = V at DI HV
  go_wp2_with fail
  refine DI.out.mono ?_
  rintro e w2 ⟨rfl, hb⟩
  have B2 := Lib.hid (Later.trans B1.out hb)
  clear hb
  go_wp2_with fail
  go_ret
  exact ⟨by rw [HV.out]; rfl, B2.out⟩
theorem i_assignsNothingTwice (base : Nat) (v : Value) (p : Prg) (w : World) (hp : PgC base w v p) (hb : Wb p) : Calls Tryd.prog 93 #[v] w fun e w' => e = .returned (.bool (ru4 p)) ∧ Later w w' := by
  have MT := mth_of base v p w hp hb
  have DC := Lib.hid MT.dc; have AC := Lib.hid MT.ac; have RC := Lib.hid MT.rc; have TG := Lib.hid MT.tg; have US := Lib.hid MT.us
  obtain ⟨b1, b2, b3, b4, b5, b6, _⟩ := hb
  clear MT
  obtain ⟨a1, c1, a2, c2, a3, c3, a4, c4, rfl, _, _, _, _, _, _⟩ := hp.pgv
  clear hp b1 b2 b3 b4 b5 b6
  obtain ⟨s0, hs0⟩ : ∃ q, q = tx p.nm := ⟨_, rfl⟩
  obtain ⟨s4, hs4⟩ : ∃ q, q = tx p.grd := ⟨_, rfl⟩
  obtain ⟨n1, hn1⟩ : ∃ q, q = p.ins.length := ⟨_, rfl⟩
  obtain ⟨n2, hn2⟩ : ∃ q, q = p.vrs.length := ⟨_, rfl⟩
  obtain ⟨n3, hn3⟩ : ∃ q, q = p.outs.length := ⟨_, rfl⟩
  obtain ⟨n4, hn4⟩ : ∃ q, q = p.lns.length := ⟨_, rfl⟩
  simp only [← hs0, ← hs4, ← hn1, ← hn2, ← hn3, ← hn4] at DC AC RC TG US ⊢
  clear hs0 hs4 hn1 hn2 hn3 hn4
  have q0 : (w.alloc (.cells #[.string s0, .slice a1 n1 c1, .slice a2 n2 c2, .slice a3 n3 c3, .string s4, .slice a4 n4 c4] 27)).cell? ⟨w.heap.size, 0, none⟩ = some (.string s0) := by rw [cell_of_row _ _ 0 _ _ (0, 0) (heap_alloc_new w _)]; rfl
  have q1 : (w.alloc (.cells #[.string s0, .slice a1 n1 c1, .slice a2 n2 c2, .slice a3 n3 c3, .string s4, .slice a4 n4 c4] 27)).cell? ⟨w.heap.size, 1, none⟩ = some (.slice a1 n1 c1) := by rw [cell_of_row _ _ 1 _ _ (0, 0) (heap_alloc_new w _)]; rfl
  have q2 : (w.alloc (.cells #[.string s0, .slice a1 n1 c1, .slice a2 n2 c2, .slice a3 n3 c3, .string s4, .slice a4 n4 c4] 27)).cell? ⟨w.heap.size, 2, none⟩ = some (.slice a2 n2 c2) := by rw [cell_of_row _ _ 2 _ _ (0, 0) (heap_alloc_new w _)]; rfl
  have q3 : (w.alloc (.cells #[.string s0, .slice a1 n1 c1, .slice a2 n2 c2, .slice a3 n3 c3, .string s4, .slice a4 n4 c4] 27)).cell? ⟨w.heap.size, 3, none⟩ = some (.slice a3 n3 c3) := by rw [cell_of_row _ _ 3 _ _ (0, 0) (heap_alloc_new w _)]; rfl
  have q4 : (w.alloc (.cells #[.string s0, .slice a1 n1 c1, .slice a2 n2 c2, .slice a3 n3 c3, .string s4, .slice a4 n4 c4] 27)).cell? ⟨w.heap.size, 4, none⟩ = some (.string s4) := by rw [cell_of_row _ _ 4 _ _ (0, 0) (heap_alloc_new w _)]; rfl
  have q5 : (w.alloc (.cells #[.string s0, .slice a1 n1 c1, .slice a2 n2 c2, .slice a3 n3 c3, .string s4, .slice a4 n4 c4] 27)).cell? ⟨w.heap.size, 5, none⟩ = some (.slice a4 n4 c4) := by rw [cell_of_row _ _ 5 _ _ (0, 0) (heap_alloc_new w _)]; rfl
  have hW0 : w.heap.size < (w.alloc (.cells #[.string s0, .slice a1 n1 c1, .slice a2 n2 c2, .slice a3 n3 c3, .string s4, .slice a4 n4 c4] 27)).heap.size := by rw [World.size_alloc]; exact Nat.lt_succ_self _
  have C0 : Hid (∀ W', Later (w.alloc (.cells #[.string s0, .slice a1 n1 c1, .slice a2 n2 c2, .slice a3 n3 c3, .string s4, .slice a4 n4 c4] 27)) W' → W'.cell? ⟨w.heap.size, 0, none⟩ = some (.string s0) ∧ W'.cell? ⟨w.heap.size, 1, none⟩ = some (.slice a1 n1 c1) ∧ W'.cell? ⟨w.heap.size, 2, none⟩ = some (.slice a2 n2 c2) ∧ W'.cell? ⟨w.heap.size, 3, none⟩ = some (.slice a3 n3 c3) ∧ W'.cell? ⟨w.heap.size, 4, none⟩ = some (.string s4) ∧ W'.cell? ⟨w.heap.size, 5, none⟩ = some (.slice a4 n4 c4)) := Lib.hid (fun W' q => ⟨by rw [q.cell (p := ⟨w.heap.size, 0, none⟩) hW0]; exact q0, by rw [q.cell (p := ⟨w.heap.size, 1, none⟩) hW0]; exact q1, by rw [q.cell (p := ⟨w.heap.size, 2, none⟩) hW0]; exact q2, by rw [q.cell (p := ⟨w.heap.size, 3, none⟩) hW0]; exact q3, by rw [q.cell (p := ⟨w.heap.size, 4, none⟩) hW0]; exact q4, by rw [q.cell (p := ⟨w.heap.size, 5, none⟩) hW0]; exact q5⟩)
  have A0 : Hid (Later w (w.alloc (.cells #[.string s0, .slice a1 n1 c1, .slice a2 n2 c2, .slice a3 n3 c3, .string s4, .slice a4 n4 c4] 27))) := Lib.hid ((Later.refl _).alloc _)
  clear hW0
  go_enter Tryd.func93, Tryd.ntmps93
  go_wp2_with fail
  generalize (w.alloc (.cells #[.string s0, .slice a1 n1 c1, .slice a2 n2 c2, .slice a3 n3 c3, .string s4, .slice a4 n4 c4] 27)) = W0 at C0 A0 q0 q1 q2 q3 q4 q5 ⊢
  have B0 := A0
  have L0 := Lib.hid (Later.refl W0)
  refine (TG.out _ B0.out).mono ?_
  rintro e w1 ⟨u1, m1, k1, rfl, hn, hs, hb⟩
  have B1 := Lib.hid (Later.trans B0.out hb)
  have L1 := Lib.hid (Later.trans L0.out hb)
  have S1 := Lib.hid hs
  clear hb hs q0 q1 q2 q3 q4 q5
  have HV : Hid (ru4 p = decide (tgs p.lns).Nodup) := Lib.hid rfl
  have DI := Lib.hid (i_areDistinct u1 _ k1 (tgs p.lns) w1 S1.out hn)
  generalize decide (tgs p.lns).Nodup = V at DI HV
  go_wp2_with fail
  refine DI.out.mono ?_
  rintro e w2 ⟨rfl, hb⟩
  have B2 := Lib.hid (Later.trans B1.out hb)
  clear hb
  go_wp2_with fail
  go_ret
  exact ⟨by rw [HV.out]; rfl, B2.out⟩
theorem i_assignsNothingElse (base : Nat) (v : Value) (p : Prg) (w : World) (hp : PgC base w v p) (hb : Wb p) : Calls Tryd.prog 92 #[v] w fun e w' => e = .returned (.bool (ru3 p)) ∧ Later w w' := by
  have MT := mth_of base v p w hp hb
  have DC := Lib.hid MT.dc; have AC := Lib.hid MT.ac; have RC := Lib.hid MT.rc; have TG := Lib.hid MT.tg; have US := Lib.hid MT.us
  obtain ⟨b1, b2, b3, b4, b5, b6, _⟩ := hb
  clear MT
  obtain ⟨a1, c1, a2, c2, a3, c3, a4, c4, rfl, _, _, _, _, _, _⟩ := hp.pgv
  clear hp b1 b2 b3 b4 b5 b6
  obtain ⟨s0, hs0⟩ : ∃ q, q = tx p.nm := ⟨_, rfl⟩
  obtain ⟨s4, hs4⟩ : ∃ q, q = tx p.grd := ⟨_, rfl⟩
  obtain ⟨n1, hn1⟩ : ∃ q, q = p.ins.length := ⟨_, rfl⟩
  obtain ⟨n2, hn2⟩ : ∃ q, q = p.vrs.length := ⟨_, rfl⟩
  obtain ⟨n3, hn3⟩ : ∃ q, q = p.outs.length := ⟨_, rfl⟩
  obtain ⟨n4, hn4⟩ : ∃ q, q = p.lns.length := ⟨_, rfl⟩
  simp only [← hs0, ← hs4, ← hn1, ← hn2, ← hn3, ← hn4] at DC AC RC TG US ⊢
  clear hs0 hs4 hn1 hn2 hn3 hn4
  have q0 : (w.alloc (.cells #[.string s0, .slice a1 n1 c1, .slice a2 n2 c2, .slice a3 n3 c3, .string s4, .slice a4 n4 c4] 27)).cell? ⟨w.heap.size, 0, none⟩ = some (.string s0) := by rw [cell_of_row _ _ 0 _ _ (0, 0) (heap_alloc_new w _)]; rfl
  have q1 : (w.alloc (.cells #[.string s0, .slice a1 n1 c1, .slice a2 n2 c2, .slice a3 n3 c3, .string s4, .slice a4 n4 c4] 27)).cell? ⟨w.heap.size, 1, none⟩ = some (.slice a1 n1 c1) := by rw [cell_of_row _ _ 1 _ _ (0, 0) (heap_alloc_new w _)]; rfl
  have q2 : (w.alloc (.cells #[.string s0, .slice a1 n1 c1, .slice a2 n2 c2, .slice a3 n3 c3, .string s4, .slice a4 n4 c4] 27)).cell? ⟨w.heap.size, 2, none⟩ = some (.slice a2 n2 c2) := by rw [cell_of_row _ _ 2 _ _ (0, 0) (heap_alloc_new w _)]; rfl
  have q3 : (w.alloc (.cells #[.string s0, .slice a1 n1 c1, .slice a2 n2 c2, .slice a3 n3 c3, .string s4, .slice a4 n4 c4] 27)).cell? ⟨w.heap.size, 3, none⟩ = some (.slice a3 n3 c3) := by rw [cell_of_row _ _ 3 _ _ (0, 0) (heap_alloc_new w _)]; rfl
  have q4 : (w.alloc (.cells #[.string s0, .slice a1 n1 c1, .slice a2 n2 c2, .slice a3 n3 c3, .string s4, .slice a4 n4 c4] 27)).cell? ⟨w.heap.size, 4, none⟩ = some (.string s4) := by rw [cell_of_row _ _ 4 _ _ (0, 0) (heap_alloc_new w _)]; rfl
  have q5 : (w.alloc (.cells #[.string s0, .slice a1 n1 c1, .slice a2 n2 c2, .slice a3 n3 c3, .string s4, .slice a4 n4 c4] 27)).cell? ⟨w.heap.size, 5, none⟩ = some (.slice a4 n4 c4) := by rw [cell_of_row _ _ 5 _ _ (0, 0) (heap_alloc_new w _)]; rfl
  have hW0 : w.heap.size < (w.alloc (.cells #[.string s0, .slice a1 n1 c1, .slice a2 n2 c2, .slice a3 n3 c3, .string s4, .slice a4 n4 c4] 27)).heap.size := by rw [World.size_alloc]; exact Nat.lt_succ_self _
  have C0 : Hid (∀ W', Later (w.alloc (.cells #[.string s0, .slice a1 n1 c1, .slice a2 n2 c2, .slice a3 n3 c3, .string s4, .slice a4 n4 c4] 27)) W' → W'.cell? ⟨w.heap.size, 0, none⟩ = some (.string s0) ∧ W'.cell? ⟨w.heap.size, 1, none⟩ = some (.slice a1 n1 c1) ∧ W'.cell? ⟨w.heap.size, 2, none⟩ = some (.slice a2 n2 c2) ∧ W'.cell? ⟨w.heap.size, 3, none⟩ = some (.slice a3 n3 c3) ∧ W'.cell? ⟨w.heap.size, 4, none⟩ = some (.string s4) ∧ W'.cell? ⟨w.heap.size, 5, none⟩ = some (.slice a4 n4 c4)) := Lib.hid (fun W' q => ⟨by rw [q.cell (p := ⟨w.heap.size, 0, none⟩) hW0]; exact q0, by rw [q.cell (p := ⟨w.heap.size, 1, none⟩) hW0]; exact q1, by rw [q.cell (p := ⟨w.heap.size, 2, none⟩) hW0]; exact q2, by rw [q.cell (p := ⟨w.heap.size, 3, none⟩) hW0]; exact q3, by rw [q.cell (p := ⟨w.heap.size, 4, none⟩) hW0]; exact q4, by rw [q.cell (p := ⟨w.heap.size, 5, none⟩) hW0]; exact q5⟩)
  have A0 : Hid (Later w (w.alloc (.cells #[.string s0, .slice a1 n1 c1, .slice a2 n2 c2, .slice a3 n3 c3, .string s4, .slice a4 n4 c4] 27))) := Lib.hid ((Later.refl _).alloc _)
  clear hW0
  go_enter Tryd.func92, Tryd.ntmps92
  go_wp2_with fail
  generalize (w.alloc (.cells #[.string s0, .slice a1 n1 c1, .slice a2 n2 c2, .slice a3 n3 c3, .string s4, .slice a4 n4 c4] 27)) = W0 at C0 A0 q0 q1 q2 q3 q4 q5 ⊢
  have RL := Lib.hid (Later.refl W0)
  have HV : Hid (ru3 p = allIn (p.vrs ++ p.outs) (tgs p.lns)) := Lib.hid rfl
  have HAS := Lib.hid (fun b a n c W h1 h2 => i_hasAll b (p.vrs ++ p.outs) a n c (tgs p.lns) W h1 h2)
  generalize allIn (p.vrs ++ p.outs) (tgs p.lns) = V at HAS HV
  go_region_held3 (fun W' => W'.cell? ⟨w.heap.size, 0, none⟩ = some (.string s0) ∧ W'.cell? ⟨w.heap.size, 1, none⟩ = some (.slice a1 n1 c1) ∧ W'.cell? ⟨w.heap.size, 2, none⟩ = some (.slice a2 n2 c2) ∧ W'.cell? ⟨w.heap.size, 3, none⟩ = some (.slice a3 n3 c3) ∧ W'.cell? ⟨w.heap.size, 4, none⟩ = some (.string s4) ∧ W'.cell? ⟨w.heap.size, 5, none⟩ = some (.slice a4 n4 c4)) (exact C0.out _ (by repeat (first | (with_reducible exact Later.refl _) | (with_reducible exact Hid.out (by assumption)) | (with_reducible refine Later.alloc ?_ _) | (with_reducible refine Later.setCell ?_ (by simp; omega) _) | (with_reducible refine Later.setCell ?_ (by simp) _) | (with_reducible refine Later.drewN ?_ _) | (with_reducible refine Later.drew ?_) | (with_reducible refine Later.trans ?_ (Hid.out (by assumption))))))
    (first
      | (go_at_call 119; refine (AC.out _ (by repeat (first | (with_reducible exact Later.refl _) | (with_reducible exact Hid.out (by assumption)) | (with_reducible refine Later.alloc ?_ _) | (with_reducible refine Later.setCell ?_ (by simp; omega) _) | (with_reducible refine Later.setCell ?_ (by simp) _) | (with_reducible refine Later.drewN ?_ _) | (with_reducible refine Later.drew ?_) | (with_reducible refine Later.trans ?_ (Hid.out (by assumption)))))).mono ?_; rintro e w1 ⟨u1, m1, k1, rfl, hn, hs, hb⟩; have N1 := Lib.hid hn; have S1 := Lib.hid hs; have H1 := Lib.hid hb; clear hn hs hb)
      | (go_at_call 59; refine (TG.out _ (by repeat (first | (with_reducible exact Later.refl _) | (with_reducible exact Hid.out (by assumption)) | (with_reducible refine Later.alloc ?_ _) | (with_reducible refine Later.setCell ?_ (by simp; omega) _) | (with_reducible refine Later.setCell ?_ (by simp) _) | (with_reducible refine Later.drewN ?_ _) | (with_reducible refine Later.drew ?_) | (with_reducible refine Later.trans ?_ (Hid.out (by assumption)))))).mono ?_; rintro e w3 ⟨u3, m3, k3, rfl, hn, hs, hb⟩; have N3 := Lib.hid hn; have S3 := Lib.hid hs; have H3 := Lib.hid hb; clear hn hs hb)
      | (go_at_call 76; refine (nameSet1 u1 _ k1 (p.vrs ++ p.outs) _ _ (S1.out.later (by repeat (first | (with_reducible exact Later.refl _) | (with_reducible exact Hid.out (by assumption)) | (with_reducible refine Later.alloc ?_ _) | (with_reducible refine Later.setCell ?_ (by simp; omega) _) | (with_reducible refine Later.setCell ?_ (by simp) _) | (with_reducible refine Later.drewN ?_ _) | (with_reducible refine Later.drew ?_) | (with_reducible refine Later.trans ?_ (Hid.out (by assumption)))))) N1.out).mono ?_; rintro e w2 ⟨b2, rfl, hm, hb⟩; have M2 := Lib.hid hm; have H2 := Lib.hid hb; clear hm hb)
      | (go_at_call 120; refine (HAS.out b2 u3 _ k3 _ (M2.out.later (by repeat (first | (with_reducible exact Later.refl _) | (with_reducible exact Hid.out (by assumption)) | (with_reducible refine Later.alloc ?_ _) | (with_reducible refine Later.setCell ?_ (by simp; omega) _) | (with_reducible refine Later.setCell ?_ (by simp) _) | (with_reducible refine Later.drewN ?_ _) | (with_reducible refine Later.drew ?_) | (with_reducible refine Later.trans ?_ (Hid.out (by assumption)))))) (S3.out.later (by repeat (first | (with_reducible exact Later.refl _) | (with_reducible exact Hid.out (by assumption)) | (with_reducible refine Later.alloc ?_ _) | (with_reducible refine Later.setCell ?_ (by simp; omega) _) | (with_reducible refine Later.setCell ?_ (by simp) _) | (with_reducible refine Later.drewN ?_ _) | (with_reducible refine Later.drew ?_) | (with_reducible refine Later.trans ?_ (Hid.out (by assumption))))))).mono ?_; rintro e w' ⟨rfl, rfl⟩))
  all_goals
    go_wp2
    go_ret
    exact ⟨by rw [HV.out]; rfl, (by repeat (first | (with_reducible exact Later.refl _) | (with_reducible exact Hid.out (by assumption)) | (with_reducible refine Later.alloc ?_ _) | (with_reducible refine Later.setCell ?_ (by simp; omega) _) | (with_reducible refine Later.setCell ?_ (by simp) _) | (with_reducible refine Later.drewN ?_ _) | (with_reducible refine Later.drew ?_) | (with_reducible refine Later.trans ?_ (Hid.out (by assumption)))))⟩
theorem i_assignsAll (base : Nat) (v : Value) (p : Prg) (w : World) (hp : PgC base w v p) (hb : Wb p) : Calls Tryd.prog 94 #[v] w fun e w' => e = .returned (.bool (ru5 p)) ∧ Later w w' := by
  have MT := mth_of base v p w hp hb
  have DC := Lib.hid MT.dc; have AC := Lib.hid MT.ac; have RC := Lib.hid MT.rc; have TG := Lib.hid MT.tg; have US := Lib.hid MT.us
  obtain ⟨b1, b2, b3, b4, b5, b6, _⟩ := hb
  clear MT
  obtain ⟨a1, c1, a2, c2, a3, c3, a4, c4, rfl, _, _, _, _, _, _⟩ := hp.pgv
  clear hp b1 b2 b3 b4 b5 b6
  obtain ⟨s0, hs0⟩ : ∃ q, q = tx p.nm := ⟨_, rfl⟩
  obtain ⟨s4, hs4⟩ : ∃ q, q = tx p.grd := ⟨_, rfl⟩
  obtain ⟨n1, hn1⟩ : ∃ q, q = p.ins.length := ⟨_, rfl⟩
  obtain ⟨n2, hn2⟩ : ∃ q, q = p.vrs.length := ⟨_, rfl⟩
  obtain ⟨n3, hn3⟩ : ∃ q, q = p.outs.length := ⟨_, rfl⟩
  obtain ⟨n4, hn4⟩ : ∃ q, q = p.lns.length := ⟨_, rfl⟩
  simp only [← hs0, ← hs4, ← hn1, ← hn2, ← hn3, ← hn4] at DC AC RC TG US ⊢
  clear hs0 hs4 hn1 hn2 hn3 hn4
  have q0 : (w.alloc (.cells #[.string s0, .slice a1 n1 c1, .slice a2 n2 c2, .slice a3 n3 c3, .string s4, .slice a4 n4 c4] 27)).cell? ⟨w.heap.size, 0, none⟩ = some (.string s0) := by rw [cell_of_row _ _ 0 _ _ (0, 0) (heap_alloc_new w _)]; rfl
  have q1 : (w.alloc (.cells #[.string s0, .slice a1 n1 c1, .slice a2 n2 c2, .slice a3 n3 c3, .string s4, .slice a4 n4 c4] 27)).cell? ⟨w.heap.size, 1, none⟩ = some (.slice a1 n1 c1) := by rw [cell_of_row _ _ 1 _ _ (0, 0) (heap_alloc_new w _)]; rfl
  have q2 : (w.alloc (.cells #[.string s0, .slice a1 n1 c1, .slice a2 n2 c2, .slice a3 n3 c3, .string s4, .slice a4 n4 c4] 27)).cell? ⟨w.heap.size, 2, none⟩ = some (.slice a2 n2 c2) := by rw [cell_of_row _ _ 2 _ _ (0, 0) (heap_alloc_new w _)]; rfl
  have q3 : (w.alloc (.cells #[.string s0, .slice a1 n1 c1, .slice a2 n2 c2, .slice a3 n3 c3, .string s4, .slice a4 n4 c4] 27)).cell? ⟨w.heap.size, 3, none⟩ = some (.slice a3 n3 c3) := by rw [cell_of_row _ _ 3 _ _ (0, 0) (heap_alloc_new w _)]; rfl
  have q4 : (w.alloc (.cells #[.string s0, .slice a1 n1 c1, .slice a2 n2 c2, .slice a3 n3 c3, .string s4, .slice a4 n4 c4] 27)).cell? ⟨w.heap.size, 4, none⟩ = some (.string s4) := by rw [cell_of_row _ _ 4 _ _ (0, 0) (heap_alloc_new w _)]; rfl
  have q5 : (w.alloc (.cells #[.string s0, .slice a1 n1 c1, .slice a2 n2 c2, .slice a3 n3 c3, .string s4, .slice a4 n4 c4] 27)).cell? ⟨w.heap.size, 5, none⟩ = some (.slice a4 n4 c4) := by rw [cell_of_row _ _ 5 _ _ (0, 0) (heap_alloc_new w _)]; rfl
  have hW0 : w.heap.size < (w.alloc (.cells #[.string s0, .slice a1 n1 c1, .slice a2 n2 c2, .slice a3 n3 c3, .string s4, .slice a4 n4 c4] 27)).heap.size := by rw [World.size_alloc]; exact Nat.lt_succ_self _
  have C0 : Hid (∀ W', Later (w.alloc (.cells #[.string s0, .slice a1 n1 c1, .slice a2 n2 c2, .slice a3 n3 c3, .string s4, .slice a4 n4 c4] 27)) W' → W'.cell? ⟨w.heap.size, 0, none⟩ = some (.string s0) ∧ W'.cell? ⟨w.heap.size, 1, none⟩ = some (.slice a1 n1 c1) ∧ W'.cell? ⟨w.heap.size, 2, none⟩ = some (.slice a2 n2 c2) ∧ W'.cell? ⟨w.heap.size, 3, none⟩ = some (.slice a3 n3 c3) ∧ W'.cell? ⟨w.heap.size, 4, none⟩ = some (.string s4) ∧ W'.cell? ⟨w.heap.size, 5, none⟩ = some (.slice a4 n4 c4)) := Lib.hid (fun W' q => ⟨by rw [q.cell (p := ⟨w.heap.size, 0, none⟩) hW0]; exact q0, by rw [q.cell (p := ⟨w.heap.size, 1, none⟩) hW0]; exact q1, by rw [q.cell (p := ⟨w.heap.size, 2, none⟩) hW0]; exact q2, by rw [q.cell (p := ⟨w.heap.size, 3, none⟩) hW0]; exact q3, by rw [q.cell (p := ⟨w.heap.size, 4, none⟩) hW0]; exact q4, by rw [q.cell (p := ⟨w.heap.size, 5, none⟩) hW0]; exact q5⟩)
  have A0 : Hid (Later w (w.alloc (.cells #[.string s0, .slice a1 n1 c1, .slice a2 n2 c2, .slice a3 n3 c3, .string s4, .slice a4 n4 c4] 27))) := Lib.hid ((Later.refl _).alloc _)
  clear hW0
  go_enter Tryd.func94, Tryd.ntmps94
  go_wp2_with fail
  generalize (w.alloc (.cells #[.string s0, .slice a1 n1 c1, .slice a2 n2 c2, .slice a3 n3 c3, .string s4, .slice a4 n4 c4] 27)) = W0 at C0 A0 q0 q1 q2 q3 q4 q5 ⊢
  have RL := Lib.hid (Later.refl W0)
  have HV : Hid (ru5 p = allIn (tgs p.lns) (p.vrs ++ p.outs)) := Lib.hid rfl
  have HAS := Lib.hid (fun b a n c W h1 h2 => i_hasAll b (tgs p.lns) a n c (p.vrs ++ p.outs) W h1 h2)
  generalize allIn (tgs p.lns) (p.vrs ++ p.outs) = V at HAS HV
  go_region_held3 (fun W' => W'.cell? ⟨w.heap.size, 0, none⟩ = some (.string s0) ∧ W'.cell? ⟨w.heap.size, 1, none⟩ = some (.slice a1 n1 c1) ∧ W'.cell? ⟨w.heap.size, 2, none⟩ = some (.slice a2 n2 c2) ∧ W'.cell? ⟨w.heap.size, 3, none⟩ = some (.slice a3 n3 c3) ∧ W'.cell? ⟨w.heap.size, 4, none⟩ = some (.string s4) ∧ W'.cell? ⟨w.heap.size, 5, none⟩ = some (.slice a4 n4 c4)) (exact C0.out _ (by repeat (first | (with_reducible exact Later.refl _) | (with_reducible exact Hid.out (by assumption)) | (with_reducible refine Later.alloc ?_ _) | (with_reducible refine Later.setCell ?_ (by simp; omega) _) | (with_reducible refine Later.setCell ?_ (by simp) _) | (with_reducible refine Later.drewN ?_ _) | (with_reducible refine Later.drew ?_) | (with_reducible refine Later.trans ?_ (Hid.out (by assumption))))))
    (first
      | (go_at_call 59; refine (TG.out _ (by repeat (first | (with_reducible exact Later.refl _) | (with_reducible exact Hid.out (by assumption)) | (with_reducible refine Later.alloc ?_ _) | (with_reducible refine Later.setCell ?_ (by simp; omega) _) | (with_reducible refine Later.setCell ?_ (by simp) _) | (with_reducible refine Later.drewN ?_ _) | (with_reducible refine Later.drew ?_) | (with_reducible refine Later.trans ?_ (Hid.out (by assumption)))))).mono ?_; rintro e w1 ⟨u1, m1, k1, rfl, hn, hs, hb⟩; have N1 := Lib.hid hn; have S1 := Lib.hid hs; have H1 := Lib.hid hb; clear hn hs hb)
      | (go_at_call 119; refine (AC.out _ (by repeat (first | (with_reducible exact Later.refl _) | (with_reducible exact Hid.out (by assumption)) | (with_reducible refine Later.alloc ?_ _) | (with_reducible refine Later.setCell ?_ (by simp; omega) _) | (with_reducible refine Later.setCell ?_ (by simp) _) | (with_reducible refine Later.drewN ?_ _) | (with_reducible refine Later.drew ?_) | (with_reducible refine Later.trans ?_ (Hid.out (by assumption)))))).mono ?_; rintro e w3 ⟨u3, m3, k3, rfl, hn, hs, hb⟩; have N3 := Lib.hid hn; have S3 := Lib.hid hs; have H3 := Lib.hid hb; clear hn hs hb)
      | (go_at_call 76; refine (nameSet1 u1 _ k1 (tgs p.lns) _ _ (S1.out.later (by repeat (first | (with_reducible exact Later.refl _) | (with_reducible exact Hid.out (by assumption)) | (with_reducible refine Later.alloc ?_ _) | (with_reducible refine Later.setCell ?_ (by simp; omega) _) | (with_reducible refine Later.setCell ?_ (by simp) _) | (with_reducible refine Later.drewN ?_ _) | (with_reducible refine Later.drew ?_) | (with_reducible refine Later.trans ?_ (Hid.out (by assumption)))))) N1.out).mono ?_; rintro e w2 ⟨b2, rfl, hm, hb⟩; have M2 := Lib.hid hm; have H2 := Lib.hid hb; clear hm hb)
      | (go_at_call 120; refine (HAS.out b2 u3 _ k3 _ (M2.out.later (by repeat (first | (with_reducible exact Later.refl _) | (with_reducible exact Hid.out (by assumption)) | (with_reducible refine Later.alloc ?_ _) | (with_reducible refine Later.setCell ?_ (by simp; omega) _) | (with_reducible refine Later.setCell ?_ (by simp) _) | (with_reducible refine Later.drewN ?_ _) | (with_reducible refine Later.drew ?_) | (with_reducible refine Later.trans ?_ (Hid.out (by assumption)))))) (S3.out.later (by repeat (first | (with_reducible exact Later.refl _) | (with_reducible exact Hid.out (by assumption)) | (with_reducible refine Later.alloc ?_ _) | (with_reducible refine Later.setCell ?_ (by simp; omega) _) | (with_reducible refine Later.setCell ?_ (by simp) _) | (with_reducible refine Later.drewN ?_ _) | (with_reducible refine Later.drew ?_) | (with_reducible refine Later.trans ?_ (Hid.out (by assumption))))))).mono ?_; rintro e w' ⟨rfl, rfl⟩))
  all_goals
    go_wp2
    go_ret
    exact ⟨by rw [HV.out]; rfl, (by repeat (first | (with_reducible exact Later.refl _) | (with_reducible exact Hid.out (by assumption)) | (with_reducible refine Later.alloc ?_ _) | (with_reducible refine Later.setCell ?_ (by simp; omega) _) | (with_reducible refine Later.setCell ?_ (by simp) _) | (with_reducible refine Later.drewN ?_ _) | (with_reducible refine Later.drew ?_) | (with_reducible refine Later.trans ?_ (Hid.out (by assumption)))))⟩
theorem i_usesReadableNames (base : Nat) (v : Value) (p : Prg) (w : World) (hp : PgC base w v p) (hb : Wb p) : Calls Tryd.prog 95 #[v] w fun e w' => e = .returned (.bool (ru6 p)) ∧ Later w w' := by
  have MT := mth_of base v p w hp hb
  have DC := Lib.hid MT.dc; have AC := Lib.hid MT.ac; have RC := Lib.hid MT.rc; have TG := Lib.hid MT.tg; have US := Lib.hid MT.us
  obtain ⟨b1, b2, b3, b4, b5, b6, _⟩ := hb
  clear MT
  obtain ⟨a1, c1, a2, c2, a3, c3, a4, c4, rfl, _, _, _, _, _, _⟩ := hp.pgv
  clear hp b1 b2 b3 b4 b5 b6
  obtain ⟨s0, hs0⟩ : ∃ q, q = tx p.nm := ⟨_, rfl⟩
  obtain ⟨s4, hs4⟩ : ∃ q, q = tx p.grd := ⟨_, rfl⟩
  obtain ⟨n1, hn1⟩ : ∃ q, q = p.ins.length := ⟨_, rfl⟩
  obtain ⟨n2, hn2⟩ : ∃ q, q = p.vrs.length := ⟨_, rfl⟩
  obtain ⟨n3, hn3⟩ : ∃ q, q = p.outs.length := ⟨_, rfl⟩
  obtain ⟨n4, hn4⟩ : ∃ q, q = p.lns.length := ⟨_, rfl⟩
  simp only [← hs0, ← hs4, ← hn1, ← hn2, ← hn3, ← hn4] at DC AC RC TG US ⊢
  clear hs0 hs4 hn1 hn2 hn3 hn4
  have q0 : (w.alloc (.cells #[.string s0, .slice a1 n1 c1, .slice a2 n2 c2, .slice a3 n3 c3, .string s4, .slice a4 n4 c4] 27)).cell? ⟨w.heap.size, 0, none⟩ = some (.string s0) := by rw [cell_of_row _ _ 0 _ _ (0, 0) (heap_alloc_new w _)]; rfl
  have q1 : (w.alloc (.cells #[.string s0, .slice a1 n1 c1, .slice a2 n2 c2, .slice a3 n3 c3, .string s4, .slice a4 n4 c4] 27)).cell? ⟨w.heap.size, 1, none⟩ = some (.slice a1 n1 c1) := by rw [cell_of_row _ _ 1 _ _ (0, 0) (heap_alloc_new w _)]; rfl
  have q2 : (w.alloc (.cells #[.string s0, .slice a1 n1 c1, .slice a2 n2 c2, .slice a3 n3 c3, .string s4, .slice a4 n4 c4] 27)).cell? ⟨w.heap.size, 2, none⟩ = some (.slice a2 n2 c2) := by rw [cell_of_row _ _ 2 _ _ (0, 0) (heap_alloc_new w _)]; rfl
  have q3 : (w.alloc (.cells #[.string s0, .slice a1 n1 c1, .slice a2 n2 c2, .slice a3 n3 c3, .string s4, .slice a4 n4 c4] 27)).cell? ⟨w.heap.size, 3, none⟩ = some (.slice a3 n3 c3) := by rw [cell_of_row _ _ 3 _ _ (0, 0) (heap_alloc_new w _)]; rfl
  have q4 : (w.alloc (.cells #[.string s0, .slice a1 n1 c1, .slice a2 n2 c2, .slice a3 n3 c3, .string s4, .slice a4 n4 c4] 27)).cell? ⟨w.heap.size, 4, none⟩ = some (.string s4) := by rw [cell_of_row _ _ 4 _ _ (0, 0) (heap_alloc_new w _)]; rfl
  have q5 : (w.alloc (.cells #[.string s0, .slice a1 n1 c1, .slice a2 n2 c2, .slice a3 n3 c3, .string s4, .slice a4 n4 c4] 27)).cell? ⟨w.heap.size, 5, none⟩ = some (.slice a4 n4 c4) := by rw [cell_of_row _ _ 5 _ _ (0, 0) (heap_alloc_new w _)]; rfl
  have hW0 : w.heap.size < (w.alloc (.cells #[.string s0, .slice a1 n1 c1, .slice a2 n2 c2, .slice a3 n3 c3, .string s4, .slice a4 n4 c4] 27)).heap.size := by rw [World.size_alloc]; exact Nat.lt_succ_self _
  have C0 : Hid (∀ W', Later (w.alloc (.cells #[.string s0, .slice a1 n1 c1, .slice a2 n2 c2, .slice a3 n3 c3, .string s4, .slice a4 n4 c4] 27)) W' → W'.cell? ⟨w.heap.size, 0, none⟩ = some (.string s0) ∧ W'.cell? ⟨w.heap.size, 1, none⟩ = some (.slice a1 n1 c1) ∧ W'.cell? ⟨w.heap.size, 2, none⟩ = some (.slice a2 n2 c2) ∧ W'.cell? ⟨w.heap.size, 3, none⟩ = some (.slice a3 n3 c3) ∧ W'.cell? ⟨w.heap.size, 4, none⟩ = some (.string s4) ∧ W'.cell? ⟨w.heap.size, 5, none⟩ = some (.slice a4 n4 c4)) := Lib.hid (fun W' q => ⟨by rw [q.cell (p := ⟨w.heap.size, 0, none⟩) hW0]; exact q0, by rw [q.cell (p := ⟨w.heap.size, 1, none⟩) hW0]; exact q1, by rw [q.cell (p := ⟨w.heap.size, 2, none⟩) hW0]; exact q2, by rw [q.cell (p := ⟨w.heap.size, 3, none⟩) hW0]; exact q3, by rw [q.cell (p := ⟨w.heap.size, 4, none⟩) hW0]; exact q4, by rw [q.cell (p := ⟨w.heap.size, 5, none⟩) hW0]; exact q5⟩)
  have A0 : Hid (Later w (w.alloc (.cells #[.string s0, .slice a1 n1 c1, .slice a2 n2 c2, .slice a3 n3 c3, .string s4, .slice a4 n4 c4] 27))) := Lib.hid ((Later.refl _).alloc _)
  clear hW0
  go_enter Tryd.func95, Tryd.ntmps95
  go_wp2_with fail
  generalize (w.alloc (.cells #[.string s0, .slice a1 n1 c1, .slice a2 n2 c2, .slice a3 n3 c3, .string s4, .slice a4 n4 c4] 27)) = W0 at C0 A0 q0 q1 q2 q3 q4 q5 ⊢
  have RL := Lib.hid (Later.refl W0)
  have HV : Hid (ru6 p = allIn (p.ins ++ p.vrs) (nmV p.lns)) := Lib.hid rfl
  have HAS := Lib.hid (fun b a n c W h1 h2 => i_hasAll b (p.ins ++ p.vrs) a n c (nmV p.lns) W h1 h2)
  generalize allIn (p.ins ++ p.vrs) (nmV p.lns) = V at HAS HV
  go_region_held3 (fun W' => W'.cell? ⟨w.heap.size, 0, none⟩ = some (.string s0) ∧ W'.cell? ⟨w.heap.size, 1, none⟩ = some (.slice a1 n1 c1) ∧ W'.cell? ⟨w.heap.size, 2, none⟩ = some (.slice a2 n2 c2) ∧ W'.cell? ⟨w.heap.size, 3, none⟩ = some (.slice a3 n3 c3) ∧ W'.cell? ⟨w.heap.size, 4, none⟩ = some (.string s4) ∧ W'.cell? ⟨w.heap.size, 5, none⟩ = some (.slice a4 n4 c4)) (exact C0.out _ (by repeat (first | (with_reducible exact Later.refl _) | (with_reducible exact Hid.out (by assumption)) | (with_reducible refine Later.alloc ?_ _) | (with_reducible refine Later.setCell ?_ (by simp; omega) _) | (with_reducible refine Later.setCell ?_ (by simp) _) | (with_reducible refine Later.drewN ?_ _) | (with_reducible refine Later.drew ?_) | (with_reducible refine Later.trans ?_ (Hid.out (by assumption))))))
    (first
      | (go_at_call 118; refine (RC.out _ (by repeat (first | (with_reducible exact Later.refl _) | (with_reducible exact Hid.out (by assumption)) | (with_reducible refine Later.alloc ?_ _) | (with_reducible refine Later.setCell ?_ (by simp; omega) _) | (with_reducible refine Later.setCell ?_ (by simp) _) | (with_reducible refine Later.drewN ?_ _) | (with_reducible refine Later.drew ?_) | (with_reducible refine Later.trans ?_ (Hid.out (by assumption)))))).mono ?_; rintro e w2 ⟨b2, rfl, hm, hb⟩; have M2 := Lib.hid hm; have H2 := Lib.hid hb; clear hm hb)
      | (go_at_call 121; refine (US.out _ (by repeat (first | (with_reducible exact Later.refl _) | (with_reducible exact Hid.out (by assumption)) | (with_reducible refine Later.alloc ?_ _) | (with_reducible refine Later.setCell ?_ (by simp; omega) _) | (with_reducible refine Later.setCell ?_ (by simp) _) | (with_reducible refine Later.drewN ?_ _) | (with_reducible refine Later.drew ?_) | (with_reducible refine Later.trans ?_ (Hid.out (by assumption)))))).mono ?_; rintro e w3 ⟨u3, m3, k3, rfl, hn, hs, hb⟩; have N3 := Lib.hid hn; have S3 := Lib.hid hs; have H3 := Lib.hid hb; clear hn hs hb)
      | (go_at_call 120; refine (HAS.out b2 u3 _ k3 _ (M2.out.later (by repeat (first | (with_reducible exact Later.refl _) | (with_reducible exact Hid.out (by assumption)) | (with_reducible refine Later.alloc ?_ _) | (with_reducible refine Later.setCell ?_ (by simp; omega) _) | (with_reducible refine Later.setCell ?_ (by simp) _) | (with_reducible refine Later.drewN ?_ _) | (with_reducible refine Later.drew ?_) | (with_reducible refine Later.trans ?_ (Hid.out (by assumption)))))) (S3.out.later (by repeat (first | (with_reducible exact Later.refl _) | (with_reducible exact Hid.out (by assumption)) | (with_reducible refine Later.alloc ?_ _) | (with_reducible refine Later.setCell ?_ (by simp; omega) _) | (with_reducible refine Later.setCell ?_ (by simp) _) | (with_reducible refine Later.drewN ?_ _) | (with_reducible refine Later.drew ?_) | (with_reducible refine Later.trans ?_ (Hid.out (by assumption))))))).mono ?_; rintro e w' ⟨rfl, rfl⟩))
  all_goals
    go_wp2
    go_ret
    exact ⟨by rw [HV.out]; rfl, (by repeat (first | (with_reducible exact Later.refl _) | (with_reducible exact Hid.out (by assumption)) | (with_reducible refine Later.alloc ?_ _) | (with_reducible refine Later.setCell ?_ (by simp; omega) _) | (with_reducible refine Later.setCell ?_ (by simp) _) | (with_reducible refine Later.drewN ?_ _) | (with_reducible refine Later.drew ?_) | (with_reducible refine Later.trans ?_ (Hid.out (by assumption)))))⟩
theorem i_hasReadableGuard (base : Nat) (v : Value) (p : Prg) (w : World) (hp : PgC base w v p) (hb : Wb p) : Calls Tryd.prog 91 #[v] w fun e w' => e = .returned (.bool (ru2 p)) ∧ Later w w' := by
  have MT := mth_of base v p w hp hb
  have DC := Lib.hid MT.dc; have AC := Lib.hid MT.ac; have RC := Lib.hid MT.rc; have TG := Lib.hid MT.tg; have US := Lib.hid MT.us
  obtain ⟨b1, b2, b3, b4, b5, b6, _⟩ := hb
  have EG : ((tx p.grd).toList.isEmpty) = decide (p.grd = []) := by
    rw [Lib.toList_data]
    show p.grd.isEmpty = _
    cases p.grd <;> simp
  have KG := Lib.hid (keyN p.grd (by obtain ⟨_, _, _, _, _, _, _, _, _, _, _, _, _, _, h⟩ := hp.pgv; exact h))
  clear MT
  obtain ⟨a1, c1, a2, c2, a3, c3, a4, c4, rfl, _, _, _, _, _, _⟩ := hp.pgv
  clear hp b1 b2 b3 b4 b5 b6
  obtain ⟨s0, hs0⟩ : ∃ q, q = tx p.nm := ⟨_, rfl⟩
  obtain ⟨s4, hs4⟩ : ∃ q, q = tx p.grd := ⟨_, rfl⟩
  obtain ⟨n1, hn1⟩ : ∃ q, q = p.ins.length := ⟨_, rfl⟩
  obtain ⟨n2, hn2⟩ : ∃ q, q = p.vrs.length := ⟨_, rfl⟩
  obtain ⟨n3, hn3⟩ : ∃ q, q = p.outs.length := ⟨_, rfl⟩
  obtain ⟨n4, hn4⟩ : ∃ q, q = p.lns.length := ⟨_, rfl⟩
  simp only [← hs0, ← hs4, ← hn1, ← hn2, ← hn3, ← hn4] at DC AC RC TG US EG KG ⊢
  clear hs0 hs4 hn1 hn2 hn3 hn4
  have q0 : (w.alloc (.cells #[.string s0, .slice a1 n1 c1, .slice a2 n2 c2, .slice a3 n3 c3, .string s4, .slice a4 n4 c4] 27)).cell? ⟨w.heap.size, 0, none⟩ = some (.string s0) := by rw [cell_of_row _ _ 0 _ _ (0, 0) (heap_alloc_new w _)]; rfl
  have q1 : (w.alloc (.cells #[.string s0, .slice a1 n1 c1, .slice a2 n2 c2, .slice a3 n3 c3, .string s4, .slice a4 n4 c4] 27)).cell? ⟨w.heap.size, 1, none⟩ = some (.slice a1 n1 c1) := by rw [cell_of_row _ _ 1 _ _ (0, 0) (heap_alloc_new w _)]; rfl
  have q2 : (w.alloc (.cells #[.string s0, .slice a1 n1 c1, .slice a2 n2 c2, .slice a3 n3 c3, .string s4, .slice a4 n4 c4] 27)).cell? ⟨w.heap.size, 2, none⟩ = some (.slice a2 n2 c2) := by rw [cell_of_row _ _ 2 _ _ (0, 0) (heap_alloc_new w _)]; rfl
  have q3 : (w.alloc (.cells #[.string s0, .slice a1 n1 c1, .slice a2 n2 c2, .slice a3 n3 c3, .string s4, .slice a4 n4 c4] 27)).cell? ⟨w.heap.size, 3, none⟩ = some (.slice a3 n3 c3) := by rw [cell_of_row _ _ 3 _ _ (0, 0) (heap_alloc_new w _)]; rfl
  have q4 : (w.alloc (.cells #[.string s0, .slice a1 n1 c1, .slice a2 n2 c2, .slice a3 n3 c3, .string s4, .slice a4 n4 c4] 27)).cell? ⟨w.heap.size, 4, none⟩ = some (.string s4) := by rw [cell_of_row _ _ 4 _ _ (0, 0) (heap_alloc_new w _)]; rfl
  have q5 : (w.alloc (.cells #[.string s0, .slice a1 n1 c1, .slice a2 n2 c2, .slice a3 n3 c3, .string s4, .slice a4 n4 c4] 27)).cell? ⟨w.heap.size, 5, none⟩ = some (.slice a4 n4 c4) := by rw [cell_of_row _ _ 5 _ _ (0, 0) (heap_alloc_new w _)]; rfl
  have hW0 : w.heap.size < (w.alloc (.cells #[.string s0, .slice a1 n1 c1, .slice a2 n2 c2, .slice a3 n3 c3, .string s4, .slice a4 n4 c4] 27)).heap.size := by rw [World.size_alloc]; exact Nat.lt_succ_self _
  have C0 : Hid (∀ W', Later (w.alloc (.cells #[.string s0, .slice a1 n1 c1, .slice a2 n2 c2, .slice a3 n3 c3, .string s4, .slice a4 n4 c4] 27)) W' → W'.cell? ⟨w.heap.size, 0, none⟩ = some (.string s0) ∧ W'.cell? ⟨w.heap.size, 1, none⟩ = some (.slice a1 n1 c1) ∧ W'.cell? ⟨w.heap.size, 2, none⟩ = some (.slice a2 n2 c2) ∧ W'.cell? ⟨w.heap.size, 3, none⟩ = some (.slice a3 n3 c3) ∧ W'.cell? ⟨w.heap.size, 4, none⟩ = some (.string s4) ∧ W'.cell? ⟨w.heap.size, 5, none⟩ = some (.slice a4 n4 c4)) := Lib.hid (fun W' q => ⟨by rw [q.cell (p := ⟨w.heap.size, 0, none⟩) hW0]; exact q0, by rw [q.cell (p := ⟨w.heap.size, 1, none⟩) hW0]; exact q1, by rw [q.cell (p := ⟨w.heap.size, 2, none⟩) hW0]; exact q2, by rw [q.cell (p := ⟨w.heap.size, 3, none⟩) hW0]; exact q3, by rw [q.cell (p := ⟨w.heap.size, 4, none⟩) hW0]; exact q4, by rw [q.cell (p := ⟨w.heap.size, 5, none⟩) hW0]; exact q5⟩)
  have A0 : Hid (Later w (w.alloc (.cells #[.string s0, .slice a1 n1 c1, .slice a2 n2 c2, .slice a3 n3 c3, .string s4, .slice a4 n4 c4] 27))) := Lib.hid ((Later.refl _).alloc _)
  clear hW0
  have HV : Hid (ru2 p = (decide (p.grd = []) || decide (p.grd ∈ p.ins ++ p.vrs))) := Lib.hid rfl
  have hat := nsD_at (H := Unit) (p.ins ++ p.vrs) p.grd
  generalize decide (p.grd ∈ p.ins ++ p.vrs) = g1 at hat HV
  generalize decide (p.grd = []) = g0 at EG HV
  cases g0
  · go_enter Tryd.func91, Tryd.ntmps91
    go_wp2_with fail
    generalize (w.alloc (.cells #[.string s0, .slice a1 n1 c1, .slice a2 n2 c2, .slice a3 n3 c3, .string s4, .slice a4 n4 c4] 27)) = W0 at C0 A0 q0 q1 q2 q3 q4 q5 ⊢
    have RL := Lib.hid (Later.refl W0)
    go_region_held3 (fun W' => W'.cell? ⟨w.heap.size, 0, none⟩ = some (.string s0) ∧ W'.cell? ⟨w.heap.size, 1, none⟩ = some (.slice a1 n1 c1) ∧ W'.cell? ⟨w.heap.size, 2, none⟩ = some (.slice a2 n2 c2) ∧ W'.cell? ⟨w.heap.size, 3, none⟩ = some (.slice a3 n3 c3) ∧ W'.cell? ⟨w.heap.size, 4, none⟩ = some (.string s4) ∧ W'.cell? ⟨w.heap.size, 5, none⟩ = some (.slice a4 n4 c4)) (exact C0.out _ (by repeat (first | (with_reducible exact Later.refl _) | (with_reducible exact Hid.out (by assumption)) | (with_reducible refine Later.alloc ?_ _) | (with_reducible refine Later.setCell ?_ (by simp; omega) _) | (with_reducible refine Later.setCell ?_ (by simp) _) | (with_reducible refine Later.drewN ?_ _) | (with_reducible refine Later.drew ?_) | (with_reducible refine Later.trans ?_ (Hid.out (by assumption))))))
      (first
        | (go_at_call 118; refine (RC.out _ (by repeat (first | (with_reducible exact Later.refl _) | (with_reducible exact Hid.out (by assumption)) | (with_reducible refine Later.alloc ?_ _) | (with_reducible refine Later.setCell ?_ (by simp; omega) _) | (with_reducible refine Later.setCell ?_ (by simp) _) | (with_reducible refine Later.drewN ?_ _) | (with_reducible refine Later.drew ?_) | (with_reducible refine Later.trans ?_ (Hid.out (by assumption)))))).mono ?_; rintro e w2 ⟨m2, rfl, ⟨c, hm⟩, hb⟩; have H2 := Lib.hid hb; have hlk := look_of hm KG.out hat; have hlq := fun q => look_of (NSk.later hm ((Later.refl _).drewN q)) KG.out hat; have hld := look_of (NSk.later hm (Later.refl _).drew) KG.out hat; clear hm hb))
    all_goals
      go_wp2
      go_ret
      exact ⟨by rw [HV.out]; rfl, (by repeat (first | (with_reducible exact Later.refl _) | (with_reducible exact Hid.out (by assumption)) | (with_reducible refine Later.alloc ?_ _) | (with_reducible refine Later.setCell ?_ (by simp; omega) _) | (with_reducible refine Later.setCell ?_ (by simp) _) | (with_reducible refine Later.drewN ?_ _) | (with_reducible refine Later.drew ?_) | (with_reducible refine Later.trans ?_ (Hid.out (by assumption)))))⟩
  · go_enter Tryd.func91, Tryd.ntmps91
    go_wp2_with fail
    generalize (w.alloc (.cells #[.string s0, .slice a1 n1 c1, .slice a2 n2 c2, .slice a3 n3 c3, .string s4, .slice a4 n4 c4] 27)) = W0 at C0 A0 q0 q1 q2 q3 q4 q5 ⊢
    go_quiet (fail)
    all_goals
      go_wp2
      go_ret
      exact ⟨by rw [HV.out]; rfl, (by repeat (first | (with_reducible exact Later.refl _) | (with_reducible exact Hid.out (by assumption)) | (with_reducible refine Later.alloc ?_ _) | (with_reducible refine Later.setCell ?_ (by simp; omega) _) | (with_reducible refine Later.setCell ?_ (by simp) _) | (with_reducible refine Later.drewN ?_ _) | (with_reducible refine Later.drew ?_) | (with_reducible refine Later.trans ?_ (Hid.out (by assumption)))))⟩
end Go.Proofs.YtokipobjpinhmaaDoor
namespace Go.Proofs.YtokipobjpinhmaaDoor
open Go.RowKit Go.Shelf
set_option maxHeartbeats 4000000
set_option maxRecDepth 100000
set_option linter.unusedVariables false
set_option linter.unusedSimpArgs false
/-- rule j + 1 -/
def ruN (p : Prg) : Nat → Bool
  | 0 => ru1 p
  | 1 => ru2 p
  | 2 => ru3 p
  | 3 => ru4 p
  | 4 => ru5 p
  | 5 => ru6 p
  | _ => true
theorem flt_bad (p : Prg) (k : Nat) (hk : k < 6) (h : ∀ j, j < k → ruN p j = true) (hb : ruN p k = false) : fltV p = (k : Int) + 1 := by
  unfold fltV
  match k, hk with
  | 0, _ =>
    have hb : ru1 p = false := hb
    rw [if_pos hb]; rfl
  | 1, _ =>
    have hb : ru2 p = false := hb
    have h0 : ru1 p = true := h 0 (by omega)
    rw [h0, if_neg (by simp), if_pos hb]; rfl
  | 2, _ =>
    have hb : ru3 p = false := hb
    have h0 : ru1 p = true := h 0 (by omega)
    have h1 : ru2 p = true := h 1 (by omega)
    rw [h0, h1, if_neg (by simp), if_neg (by simp), if_pos hb]; rfl
  | 3, _ =>
    have hb : ru4 p = false := hb
    have h0 : ru1 p = true := h 0 (by omega)
    have h1 : ru2 p = true := h 1 (by omega)
    have h2 : ru3 p = true := h 2 (by omega)
    rw [h0, h1, h2, if_neg (by simp), if_neg (by simp), if_neg (by simp), if_pos hb]; rfl
  | 4, _ =>
    have hb : ru5 p = false := hb
    have h0 : ru1 p = true := h 0 (by omega)
    have h1 : ru2 p = true := h 1 (by omega)
    have h2 : ru3 p = true := h 2 (by omega)
    have h3 : ru4 p = true := h 3 (by omega)
    rw [h0, h1, h2, h3, if_neg (by simp), if_neg (by simp), if_neg (by simp), if_neg (by simp), if_pos hb]; rfl
  | 5, _ =>
    have hb : ru6 p = false := hb
    have h0 : ru1 p = true := h 0 (by omega)
    have h1 : ru2 p = true := h 1 (by omega)
    have h2 : ru3 p = true := h 2 (by omega)
    have h3 : ru4 p = true := h 3 (by omega)
    have h4 : ru5 p = true := h 4 (by omega)
    rw [h0, h1, h2, h3, h4, if_neg (by simp), if_neg (by simp), if_neg (by simp), if_neg (by simp), if_neg (by simp), if_pos hb]; rfl
theorem flt_good (p : Prg) (h : ∀ j, j < 6 → ruN p j = true) : fltV p = 0 := by
  have h0 : ru1 p = true := h 0 (by omega)
  have h1 : ru2 p = true := h 1 (by omega)
  have h2 : ru3 p = true := h 2 (by omega)
  have h3 : ru4 p = true := h 3 (by omega)
  have h4 : ru5 p = true := h 4 (by omega)
  have h5 : ru6 p = true := h 5 (by omega)
  unfold fltV
  rw [h0, h1, h2, h3, h4, h5]
  simp
theorem flt_rng (p : Prg) : 0 ≤ fltV p ∧ fltV p ≤ 6 := by
  unfold fltV
  split
  · omega
  split
  · omega
  split
  · omega
  split
  · omega
  split
  · omega
  split <;> omega
theorem i_brokenRule (base : Nat) (v : Value) (p : Prg) (w : World) (hp : PgC base w v p) (hb : Wb p) : Calls Tryd.prog 50 #[v] w fun e w' => e = .returned (.int .i64 (fltV p)) ∧ Later w w' := by
  have R0 : Hid (∀ W, Later w W → Calls Tryd.prog 90 #[v] W fun e w' => e = .returned (.bool (ruN p 0)) ∧ Later W w') := Lib.hid (fun W h => i_declaresNamesOnce base v p W (hp.later h) hb)
  have R1 : Hid (∀ W, Later w W → Calls Tryd.prog 91 #[v] W fun e w' => e = .returned (.bool (ruN p 1)) ∧ Later W w') := Lib.hid (fun W h => i_hasReadableGuard base v p W (hp.later h) hb)
  have R2 : Hid (∀ W, Later w W → Calls Tryd.prog 92 #[v] W fun e w' => e = .returned (.bool (ruN p 2)) ∧ Later W w') := Lib.hid (fun W h => i_assignsNothingElse base v p W (hp.later h) hb)
  have R3 : Hid (∀ W, Later w W → Calls Tryd.prog 93 #[v] W fun e w' => e = .returned (.bool (ruN p 3)) ∧ Later W w') := Lib.hid (fun W h => i_assignsNothingTwice base v p W (hp.later h) hb)
  have R4 : Hid (∀ W, Later w W → Calls Tryd.prog 94 #[v] W fun e w' => e = .returned (.bool (ruN p 4)) ∧ Later W w') := Lib.hid (fun W h => i_assignsAll base v p W (hp.later h) hb)
  have R5 : Hid (∀ W, Later w W → Calls Tryd.prog 95 #[v] W fun e w' => e = .returned (.bool (ruN p 5)) ∧ Later W w') := Lib.hid (fun W h => i_usesReadableNames base v p W (hp.later h) hb)
  have FB := Lib.hid (flt_bad p)
  have FG := Lib.hid (flt_good p)
  obtain ⟨a1, c1, a2, c2, a3, c3, a4, c4, rfl, _, _, _, _, _, _⟩ := hp.pgv
  clear hp hb
  obtain ⟨s0, hs0⟩ : ∃ q, q = tx p.nm := ⟨_, rfl⟩
  obtain ⟨s4, hs4⟩ : ∃ q, q = tx p.grd := ⟨_, rfl⟩
  obtain ⟨n1, hn1⟩ : ∃ q, q = p.ins.length := ⟨_, rfl⟩
  obtain ⟨n2, hn2⟩ : ∃ q, q = p.vrs.length := ⟨_, rfl⟩
  obtain ⟨n3, hn3⟩ : ∃ q, q = p.outs.length := ⟨_, rfl⟩
  obtain ⟨n4, hn4⟩ : ∃ q, q = p.lns.length := ⟨_, rfl⟩
  simp only [← hs0, ← hs4, ← hn1, ← hn2, ← hn3, ← hn4] at R0 R1 R2 R3 R4 R5 ⊢
  generalize fltV p = V at FB FG ⊢
  generalize ruN p = ru at R0 R1 R2 R3 R4 R5 FB FG
  clear hs0 hs4 hn1 hn2 hn3 hn4
  have q0 : (w.alloc (.cells #[.string s0, .slice a1 n1 c1, .slice a2 n2 c2, .slice a3 n3 c3, .string s4, .slice a4 n4 c4] 27)).cell? ⟨w.heap.size, 0, none⟩ = some (.string s0) := by rw [cell_of_row _ _ 0 _ _ (0, 0) (heap_alloc_new w _)]; rfl
  have q1 : (w.alloc (.cells #[.string s0, .slice a1 n1 c1, .slice a2 n2 c2, .slice a3 n3 c3, .string s4, .slice a4 n4 c4] 27)).cell? ⟨w.heap.size, 1, none⟩ = some (.slice a1 n1 c1) := by rw [cell_of_row _ _ 1 _ _ (0, 0) (heap_alloc_new w _)]; rfl
  have q2 : (w.alloc (.cells #[.string s0, .slice a1 n1 c1, .slice a2 n2 c2, .slice a3 n3 c3, .string s4, .slice a4 n4 c4] 27)).cell? ⟨w.heap.size, 2, none⟩ = some (.slice a2 n2 c2) := by rw [cell_of_row _ _ 2 _ _ (0, 0) (heap_alloc_new w _)]; rfl
  have q3 : (w.alloc (.cells #[.string s0, .slice a1 n1 c1, .slice a2 n2 c2, .slice a3 n3 c3, .string s4, .slice a4 n4 c4] 27)).cell? ⟨w.heap.size, 3, none⟩ = some (.slice a3 n3 c3) := by rw [cell_of_row _ _ 3 _ _ (0, 0) (heap_alloc_new w _)]; rfl
  have q4 : (w.alloc (.cells #[.string s0, .slice a1 n1 c1, .slice a2 n2 c2, .slice a3 n3 c3, .string s4, .slice a4 n4 c4] 27)).cell? ⟨w.heap.size, 4, none⟩ = some (.string s4) := by rw [cell_of_row _ _ 4 _ _ (0, 0) (heap_alloc_new w _)]; rfl
  have q5 : (w.alloc (.cells #[.string s0, .slice a1 n1 c1, .slice a2 n2 c2, .slice a3 n3 c3, .string s4, .slice a4 n4 c4] 27)).cell? ⟨w.heap.size, 5, none⟩ = some (.slice a4 n4 c4) := by rw [cell_of_row _ _ 5 _ _ (0, 0) (heap_alloc_new w _)]; rfl
  have hW0 : w.heap.size < (w.alloc (.cells #[.string s0, .slice a1 n1 c1, .slice a2 n2 c2, .slice a3 n3 c3, .string s4, .slice a4 n4 c4] 27)).heap.size := by rw [World.size_alloc]; exact Nat.lt_succ_self _
  have C0 : Hid (∀ W', Later (w.alloc (.cells #[.string s0, .slice a1 n1 c1, .slice a2 n2 c2, .slice a3 n3 c3, .string s4, .slice a4 n4 c4] 27)) W' → W'.cell? ⟨w.heap.size, 0, none⟩ = some (.string s0) ∧ W'.cell? ⟨w.heap.size, 1, none⟩ = some (.slice a1 n1 c1) ∧ W'.cell? ⟨w.heap.size, 2, none⟩ = some (.slice a2 n2 c2) ∧ W'.cell? ⟨w.heap.size, 3, none⟩ = some (.slice a3 n3 c3) ∧ W'.cell? ⟨w.heap.size, 4, none⟩ = some (.string s4) ∧ W'.cell? ⟨w.heap.size, 5, none⟩ = some (.slice a4 n4 c4)) := Lib.hid (fun W' q => ⟨by rw [q.cell (p := ⟨w.heap.size, 0, none⟩) hW0]; exact q0, by rw [q.cell (p := ⟨w.heap.size, 1, none⟩) hW0]; exact q1, by rw [q.cell (p := ⟨w.heap.size, 2, none⟩) hW0]; exact q2, by rw [q.cell (p := ⟨w.heap.size, 3, none⟩) hW0]; exact q3, by rw [q.cell (p := ⟨w.heap.size, 4, none⟩) hW0]; exact q4, by rw [q.cell (p := ⟨w.heap.size, 5, none⟩) hW0]; exact q5⟩)
  have A0 : Hid (Later w (w.alloc (.cells #[.string s0, .slice a1 n1 c1, .slice a2 n2 c2, .slice a3 n3 c3, .string s4, .slice a4 n4 c4] 27))) := Lib.hid ((Later.refl _).alloc _)
  clear hW0
  have hmf : ∀ (fn : Fn) (first cap : Array Value) (w : World), (Instr.makeFunc fn first cap).run Tryd.prog w = .ok (.func fn first cap) w := fun _ _ _ _ => rfl
  go_enter Tryd.func50, Tryd.ntmps50
  go_wp2_with fail
  obtain ⟨VV, hVV⟩ : ∃ VV : Value, VV = .agg #[.string s0, .slice a1 n1 c1, .slice a2 n2 c2, .slice a3 n3 c3, .string s4, .slice a4 n4 c4] := ⟨_, rfl⟩
  simp only [← hVV] at R0 R1 R2 R3 R4 R5 ⊢
  clear hVV hmf q0 q1 q2 q3 q4 q5 C0
  have hz : (w.alloc (.cells #[.string s0, .slice a1 n1 c1, .slice a2 n2 c2, .slice a3 n3 c3, .string s4, .slice a4 n4 c4] 27)).heap.size = w.heap.size + 1 := World.size_alloc _ _
  generalize (w.alloc (.cells #[.string s0, .slice a1 n1 c1, .slice a2 n2 c2, .slice a3 n3 c3, .string s4, .slice a4 n4 c4] 27)) = W0 at A0 hz ⊢
  have f0 : Fr (w.heap.size + 1) [.func (.func 90) #[VV] #[], .func (.func 91) #[VV] #[], .func (.func 92) #[VV] #[], .func (.func 93) #[VV] #[], .func (.func 94) #[VV] #[], .func (.func 95) #[VV] #[]] (W0.alloc (.cells #[.func (.func 90) #[VV] #[], .func (.func 91) #[VV] #[], .func (.func 92) #[VV] #[], .func (.func 93) #[VV] #[], .func (.func 94) #[VV] #[], .func (.func 95) #[VV] #[]] 101)) := by rw [← hz]; exact frP_new W0 [.func (.func 90) #[VV] #[], .func (.func 91) #[VV] #[], .func (.func 92) #[VV] #[], .func (.func 93) #[VV] #[], .func (.func 94) #[VV] #[], .func (.func 95) #[VV] #[]] _
  have A1 : Hid (Later w (W0.alloc (.cells #[.func (.func 90) #[VV] #[], .func (.func 91) #[VV] #[], .func (.func 92) #[VV] #[], .func (.func 93) #[VV] #[], .func (.func 94) #[VV] #[], .func (.func 95) #[VV] #[]] 101))) := Lib.hid (A0.out.alloc _)
  generalize (W0.alloc (.cells #[.func (.func 90) #[VV] #[], .func (.func 91) #[VV] #[], .func (.func 92) #[VV] #[], .func (.func 93) #[VV] #[], .func (.func 94) #[VV] #[], .func (.func 95) #[VV] #[]] 101)) = W1 at f0 A1 ⊢
  have F0 := Lib.hid f0
  clear f0 hz A0
  clear W0
  go_loopw [21] (fun i wr => ∃ k : Nat, k ≤ 6 ∧ i = .int .i64 k ∧ Later W1 wr ∧ Hid (∀ j, j < k → ru j = true)) (fun i _ => 6 - (intOf i).toNat)
  case atStart => exact ⟨0, by omega, rfl, Later.refl _, Lib.hid (by intro j h; omega)⟩
  case round =>
    obtain ⟨k, hk, rfl, hb, HI⟩ := hrel
    have B3 := Lib.hid hb
    have L3 := Lib.hid (Later.trans A1.out hb)
    obtain ⟨o0, o1, o2, o3, o4, o5, _, _, _, _, _, _⟩ := (fr_later F0.out hb).o6
    clear hb
    by_cases hlt : k < 6
    · rcases (show k = 0 ∨ k = 1 ∨ k = 2 ∨ k = 3 ∨ k = 4 ∨ k = 5 by omega) with rfl | rfl | rfl | rfl | rfl | rfl
      · have RK := Lib.hid (R0.out _ L3.out)
        have HB := Lib.hid (FB.out 0 (by omega) HI.out)
        have HN : Hid (ru 0 = true → ∀ j, j < 0 + 1 → ru j = true) := Lib.hid (fun h j hj => by
          rcases Nat.lt_or_ge j 0 with h1 | h1
          · exact HI.out j h1
          · obtain rfl : j = 0 := by omega
            exact h)
        clear R0 R1 R2 R3 R4 R5
        generalize ru 0 = b at RK HB HN
        cases b
        · have HV : Hid (V = (0 : Int) + 1) := Lib.hid (HB.out rfl)
          go_wp2_with fail
          refine RK.out.mono ?_
          rintro e w4 ⟨rfl, hb⟩
          have B4 := Lib.hid (Later.trans L3.out hb)
          clear hb
          go_wp2_with fail
          all_goals
            go_ret
            exact ⟨by rw [HV.out]; rfl, B4.out⟩
        · have HN2 := Lib.hid (HN.out rfl)
          go_wp2_with fail
          refine RK.out.mono ?_
          rintro e w4 ⟨rfl, hb⟩
          have B4 := Lib.hid (Later.trans B3.out hb)
          clear hb
          go_wp2_with fail
          go_roundw
          case rel => exact ⟨0 + 1, by omega, by go_num, B4.out, HN2.out⟩
          case measure => simp [intOf] <;> omega
      · have RK := Lib.hid (R1.out _ L3.out)
        have HB := Lib.hid (FB.out 1 (by omega) HI.out)
        have HN : Hid (ru 1 = true → ∀ j, j < 1 + 1 → ru j = true) := Lib.hid (fun h j hj => by
          rcases Nat.lt_or_ge j 1 with h1 | h1
          · exact HI.out j h1
          · obtain rfl : j = 1 := by omega
            exact h)
        clear R0 R1 R2 R3 R4 R5
        generalize ru 1 = b at RK HB HN
        cases b
        · have HV : Hid (V = (1 : Int) + 1) := Lib.hid (HB.out rfl)
          go_wp2_with fail
          refine RK.out.mono ?_
          rintro e w4 ⟨rfl, hb⟩
          have B4 := Lib.hid (Later.trans L3.out hb)
          clear hb
          go_wp2_with fail
          all_goals
            go_ret
            exact ⟨by rw [HV.out]; rfl, B4.out⟩
        · have HN2 := Lib.hid (HN.out rfl)
          go_wp2_with fail
          refine RK.out.mono ?_
          rintro e w4 ⟨rfl, hb⟩
          have B4 := Lib.hid (Later.trans B3.out hb)
          clear hb
          go_wp2_with fail
          go_roundw
          case rel => exact ⟨1 + 1, by omega, by go_num, B4.out, HN2.out⟩
          case measure => simp [intOf] <;> omega
      · have RK := Lib.hid (R2.out _ L3.out)
        have HB := Lib.hid (FB.out 2 (by omega) HI.out)
        have HN : Hid (ru 2 = true → ∀ j, j < 2 + 1 → ru j = true) := Lib.hid (fun h j hj => by
          rcases Nat.lt_or_ge j 2 with h1 | h1
          · exact HI.out j h1
          · obtain rfl : j = 2 := by omega
            exact h)
        clear R0 R1 R2 R3 R4 R5
        generalize ru 2 = b at RK HB HN
        cases b
        · have HV : Hid (V = (2 : Int) + 1) := Lib.hid (HB.out rfl)
          go_wp2_with fail
          refine RK.out.mono ?_
          rintro e w4 ⟨rfl, hb⟩
          have B4 := Lib.hid (Later.trans L3.out hb)
          clear hb
          go_wp2_with fail
          all_goals
            go_ret
            exact ⟨by rw [HV.out]; rfl, B4.out⟩
        · have HN2 := Lib.hid (HN.out rfl)
          go_wp2_with fail
          refine RK.out.mono ?_
          rintro e w4 ⟨rfl, hb⟩
          have B4 := Lib.hid (Later.trans B3.out hb)
          clear hb
          go_wp2_with fail
          go_roundw
          case rel => exact ⟨2 + 1, by omega, by go_num, B4.out, HN2.out⟩
          case measure => simp [intOf] <;> omega
      · have RK := Lib.hid (R3.out _ L3.out)
        have HB := Lib.hid (FB.out 3 (by omega) HI.out)
        have HN : Hid (ru 3 = true → ∀ j, j < 3 + 1 → ru j = true) := Lib.hid (fun h j hj => by
          rcases Nat.lt_or_ge j 3 with h1 | h1
          · exact HI.out j h1
          · obtain rfl : j = 3 := by omega
            exact h)
        clear R0 R1 R2 R3 R4 R5
        generalize ru 3 = b at RK HB HN
        cases b
        · have HV : Hid (V = (3 : Int) + 1) := Lib.hid (HB.out rfl)
          go_wp2_with fail
          refine RK.out.mono ?_
          rintro e w4 ⟨rfl, hb⟩
          have B4 := Lib.hid (Later.trans L3.out hb)
          clear hb
          go_wp2_with fail
          all_goals
            go_ret
            exact ⟨by rw [HV.out]; rfl, B4.out⟩
        · have HN2 := Lib.hid (HN.out rfl)
          go_wp2_with fail
          refine RK.out.mono ?_
          rintro e w4 ⟨rfl, hb⟩
          have B4 := Lib.hid (Later.trans B3.out hb)
          clear hb
          go_wp2_with fail
          go_roundw
          case rel => exact ⟨3 + 1, by omega, by go_num, B4.out, HN2.out⟩
          case measure => simp [intOf] <;> omega
      · have RK := Lib.hid (R4.out _ L3.out)
        have HB := Lib.hid (FB.out 4 (by omega) HI.out)
        have HN : Hid (ru 4 = true → ∀ j, j < 4 + 1 → ru j = true) := Lib.hid (fun h j hj => by
          rcases Nat.lt_or_ge j 4 with h1 | h1
          · exact HI.out j h1
          · obtain rfl : j = 4 := by omega
            exact h)
        clear R0 R1 R2 R3 R4 R5
        generalize ru 4 = b at RK HB HN
        cases b
        · have HV : Hid (V = (4 : Int) + 1) := Lib.hid (HB.out rfl)
          go_wp2_with fail
          refine RK.out.mono ?_
          rintro e w4 ⟨rfl, hb⟩
          have B4 := Lib.hid (Later.trans L3.out hb)
          clear hb
          go_wp2_with fail
          all_goals
            go_ret
            exact ⟨by rw [HV.out]; rfl, B4.out⟩
        · have HN2 := Lib.hid (HN.out rfl)
          go_wp2_with fail
          refine RK.out.mono ?_
          rintro e w4 ⟨rfl, hb⟩
          have B4 := Lib.hid (Later.trans B3.out hb)
          clear hb
          go_wp2_with fail
          go_roundw
          case rel => exact ⟨4 + 1, by omega, by go_num, B4.out, HN2.out⟩
          case measure => simp [intOf] <;> omega
      · have RK := Lib.hid (R5.out _ L3.out)
        have HB := Lib.hid (FB.out 5 (by omega) HI.out)
        have HN : Hid (ru 5 = true → ∀ j, j < 5 + 1 → ru j = true) := Lib.hid (fun h j hj => by
          rcases Nat.lt_or_ge j 5 with h1 | h1
          · exact HI.out j h1
          · obtain rfl : j = 5 := by omega
            exact h)
        clear R0 R1 R2 R3 R4 R5
        generalize ru 5 = b at RK HB HN
        cases b
        · have HV : Hid (V = (5 : Int) + 1) := Lib.hid (HB.out rfl)
          go_wp2_with fail
          refine RK.out.mono ?_
          rintro e w4 ⟨rfl, hb⟩
          have B4 := Lib.hid (Later.trans L3.out hb)
          clear hb
          go_wp2_with fail
          all_goals
            go_ret
            exact ⟨by rw [HV.out]; rfl, B4.out⟩
        · have HN2 := Lib.hid (HN.out rfl)
          go_wp2_with fail
          refine RK.out.mono ?_
          rintro e w4 ⟨rfl, hb⟩
          have B4 := Lib.hid (Later.trans B3.out hb)
          clear hb
          go_wp2_with fail
          go_roundw
          case rel => exact ⟨5 + 1, by omega, by go_num, B4.out, HN2.out⟩
          case measure => simp [intOf] <;> omega
    · obtain rfl : k = 6 := by omega
      have HV := Lib.hid (FG.out HI.out)
      go_wp2_with fail
      all_goals
        go_ret
        exact ⟨by rw [HV.out]; rfl, L3.out⟩
end Go.Proofs.YtokipobjpinhmaaDoor
namespace Go.Proofs.YtokipobjpinhmaaDoor
open Go.RowKit Go.Shelf
set_option maxHeartbeats 4000000
set_option maxRecDepth 100000
set_option linter.unusedVariables false
set_option linter.unusedSimpArgs false
/-- what ProgramFault and its kin say -/
def pfV (p : Prg) : Int := if wrtB p = true then fltV p else 0
def pfE (p : Prg) : Int := if wrtB p = true then 0 else 1
def seV (p : Prg) : Int := if wrtB p = true then (if fltV p = 0 then 0 else 5) else 1
def isS (p : Prg) : Bool := decide (seV p = 0)
theorem i_ProgramFault (base : Nat) (v : Value) (p : Prg) (w : World) (hp : PgC base w v p) (ho : Ops w) (hl : p.lns.length ≤ 1048576) :
    Calls Tryd.prog 15 #[v] w fun e w' => e = .returned (.tuple #[.int .i64 (pfV p), .int .i64 (pfE p)]) ∧ Later w w' := by
  have IW := Lib.hid (fun W (h : Later w W) => i_IsWritten v p W (hp.pgv.later h) (ho.later h) (by omega))
  have BR := Lib.hid (fun W (h : Later w W) (hw : wrtB p = true) => i_brokenRule base v p W (hp.later h) (wb_of p hw))
  have HV : Hid (pfV p = if wrtB p = true then fltV p else 0) := Lib.hid rfl
  have HE : Hid (pfE p = if wrtB p = true then 0 else 1) := Lib.hid rfl
  obtain ⟨a1, c1, a2, c2, a3, c3, a4, c4, rfl, _, _, _, _, _, _⟩ := hp.pgv
  clear hp ho hl
  generalize pfV p = V at HV ⊢
  generalize pfE p = E at HE ⊢
  generalize wrtB p = b at IW BR HV HE
  generalize fltV p = r at BR HV
  obtain ⟨s0, hs0⟩ : ∃ q, q = tx p.nm := ⟨_, rfl⟩
  obtain ⟨s4, hs4⟩ : ∃ q, q = tx p.grd := ⟨_, rfl⟩
  obtain ⟨n1, hn1⟩ : ∃ q, q = p.ins.length := ⟨_, rfl⟩
  obtain ⟨n2, hn2⟩ : ∃ q, q = p.vrs.length := ⟨_, rfl⟩
  obtain ⟨n3, hn3⟩ : ∃ q, q = p.outs.length := ⟨_, rfl⟩
  obtain ⟨n4, hn4⟩ : ∃ q, q = p.lns.length := ⟨_, rfl⟩
  simp only [← hs0, ← hs4, ← hn1, ← hn2, ← hn3, ← hn4] at IW BR ⊢
  clear hs0 hs4 hn1 hn2 hn3 hn4
  have q0 : (w.alloc (.cells #[.string s0, .slice a1 n1 c1, .slice a2 n2 c2, .slice a3 n3 c3, .string s4, .slice a4 n4 c4] 27)).cell? ⟨w.heap.size, 0, none⟩ = some (.string s0) := by rw [cell_of_row _ _ 0 _ _ (0, 0) (heap_alloc_new w _)]; rfl
  have q1 : (w.alloc (.cells #[.string s0, .slice a1 n1 c1, .slice a2 n2 c2, .slice a3 n3 c3, .string s4, .slice a4 n4 c4] 27)).cell? ⟨w.heap.size, 1, none⟩ = some (.slice a1 n1 c1) := by rw [cell_of_row _ _ 1 _ _ (0, 0) (heap_alloc_new w _)]; rfl
  have q2 : (w.alloc (.cells #[.string s0, .slice a1 n1 c1, .slice a2 n2 c2, .slice a3 n3 c3, .string s4, .slice a4 n4 c4] 27)).cell? ⟨w.heap.size, 2, none⟩ = some (.slice a2 n2 c2) := by rw [cell_of_row _ _ 2 _ _ (0, 0) (heap_alloc_new w _)]; rfl
  have q3 : (w.alloc (.cells #[.string s0, .slice a1 n1 c1, .slice a2 n2 c2, .slice a3 n3 c3, .string s4, .slice a4 n4 c4] 27)).cell? ⟨w.heap.size, 3, none⟩ = some (.slice a3 n3 c3) := by rw [cell_of_row _ _ 3 _ _ (0, 0) (heap_alloc_new w _)]; rfl
  have q4 : (w.alloc (.cells #[.string s0, .slice a1 n1 c1, .slice a2 n2 c2, .slice a3 n3 c3, .string s4, .slice a4 n4 c4] 27)).cell? ⟨w.heap.size, 4, none⟩ = some (.string s4) := by rw [cell_of_row _ _ 4 _ _ (0, 0) (heap_alloc_new w _)]; rfl
  have q5 : (w.alloc (.cells #[.string s0, .slice a1 n1 c1, .slice a2 n2 c2, .slice a3 n3 c3, .string s4, .slice a4 n4 c4] 27)).cell? ⟨w.heap.size, 5, none⟩ = some (.slice a4 n4 c4) := by rw [cell_of_row _ _ 5 _ _ (0, 0) (heap_alloc_new w _)]; rfl
  have hW0 : w.heap.size < (w.alloc (.cells #[.string s0, .slice a1 n1 c1, .slice a2 n2 c2, .slice a3 n3 c3, .string s4, .slice a4 n4 c4] 27)).heap.size := by rw [World.size_alloc]; exact Nat.lt_succ_self _
  have C0 : Hid (∀ W', Later (w.alloc (.cells #[.string s0, .slice a1 n1 c1, .slice a2 n2 c2, .slice a3 n3 c3, .string s4, .slice a4 n4 c4] 27)) W' → W'.cell? ⟨w.heap.size, 0, none⟩ = some (.string s0) ∧ W'.cell? ⟨w.heap.size, 1, none⟩ = some (.slice a1 n1 c1) ∧ W'.cell? ⟨w.heap.size, 2, none⟩ = some (.slice a2 n2 c2) ∧ W'.cell? ⟨w.heap.size, 3, none⟩ = some (.slice a3 n3 c3) ∧ W'.cell? ⟨w.heap.size, 4, none⟩ = some (.string s4) ∧ W'.cell? ⟨w.heap.size, 5, none⟩ = some (.slice a4 n4 c4)) := Lib.hid (fun W' q => ⟨by rw [q.cell (p := ⟨w.heap.size, 0, none⟩) hW0]; exact q0, by rw [q.cell (p := ⟨w.heap.size, 1, none⟩) hW0]; exact q1, by rw [q.cell (p := ⟨w.heap.size, 2, none⟩) hW0]; exact q2, by rw [q.cell (p := ⟨w.heap.size, 3, none⟩) hW0]; exact q3, by rw [q.cell (p := ⟨w.heap.size, 4, none⟩) hW0]; exact q4, by rw [q.cell (p := ⟨w.heap.size, 5, none⟩) hW0]; exact q5⟩)
  have A0 : Hid (Later w (w.alloc (.cells #[.string s0, .slice a1 n1 c1, .slice a2 n2 c2, .slice a3 n3 c3, .string s4, .slice a4 n4 c4] 27))) := Lib.hid ((Later.refl _).alloc _)
  clear hW0
  cases b
  · obtain rfl : V = 0 := HV.out
    obtain rfl : E = 1 := HE.out
    go_enter Tryd.func15, Tryd.ntmps15
    go_wp2_with fail
    generalize (w.alloc (.cells #[.string s0, .slice a1 n1 c1, .slice a2 n2 c2, .slice a3 n3 c3, .string s4, .slice a4 n4 c4] 27)) = W0 at C0 A0 q0 q1 q2 q3 q4 q5 ⊢
    refine (IW.out _ A0.out).mono ?_
    rintro e w1 ⟨rfl, hb⟩
    have B1 := Lib.hid (Later.trans A0.out hb)
    clear hb q0 q1 q2 q3 q4 q5
    go_wp2_with fail
    all_goals
      refine bodyPost_ret (v := .tuple #[.int .i64 0, .int .i64 1]) (by simp [results, Tryd.results15, go_sem, *]) rfl ⟨rfl, B1.out⟩
  · obtain rfl : V = r := HV.out
    obtain rfl : E = 0 := HE.out
    go_enter Tryd.func15, Tryd.ntmps15
    go_wp2_with fail
    generalize (w.alloc (.cells #[.string s0, .slice a1 n1 c1, .slice a2 n2 c2, .slice a3 n3 c3, .string s4, .slice a4 n4 c4] 27)) = W0 at C0 A0 q0 q1 q2 q3 q4 q5 ⊢
    refine (IW.out _ A0.out).mono ?_
    rintro e w1 ⟨rfl, hb⟩
    have B1 := Lib.hid (Later.trans A0.out hb)
    clear q0 q1 q2 q3 q4 q5
    obtain ⟨q0, q1, q2, q3, q4, q5⟩ := C0.out _ hb
    clear hb
    go_wp2_with fail
    refine (BR.out _ B1.out trivial).mono ?_
    rintro e w2 ⟨rfl, hb⟩
    have B2 := Lib.hid (Later.trans B1.out hb)
    clear hb
    go_wp2_with fail
    all_goals
      refine bodyPost_ret (v := .tuple #[.int .i64 V, .int .i64 0]) (by simp [results, Tryd.results15, go_sem, *]) rfl ⟨rfl, B2.out⟩
theorem i_soundError (base : Nat) (v : Value) (p : Prg) (w : World) (hp : PgC base w v p) (ho : Ops w) (hl : p.lns.length ≤ 1048576) :
    Calls Tryd.prog 57 #[v] w fun e w' => e = .returned (.int .i64 (seV p)) ∧ Later w w' := by
  have PF := Lib.hid (fun W (h : Later w W) => i_ProgramFault base v p W (hp.later h) (ho.later h) hl)
  have HV : Hid (seV p = if wrtB p = true then (if fltV p = 0 then 0 else 5) else 1) := Lib.hid rfl
  have HP1 : Hid (pfV p = if wrtB p = true then fltV p else 0) := Lib.hid rfl
  have HP2 : Hid (pfE p = if wrtB p = true then 0 else 1) := Lib.hid rfl
  obtain ⟨a1, c1, a2, c2, a3, c3, a4, c4, rfl, _, _, _, _, _, _⟩ := hp.pgv
  clear hp ho hl
  generalize seV p = V at HV ⊢
  generalize pfV p = r1 at PF HP1
  generalize pfE p = r2 at PF HP2
  generalize wrtB p = b at HV HP1 HP2
  generalize fltV p = r at HV HP1
  obtain ⟨s0, hs0⟩ : ∃ q, q = tx p.nm := ⟨_, rfl⟩
  obtain ⟨s4, hs4⟩ : ∃ q, q = tx p.grd := ⟨_, rfl⟩
  obtain ⟨n1, hn1⟩ : ∃ q, q = p.ins.length := ⟨_, rfl⟩
  obtain ⟨n2, hn2⟩ : ∃ q, q = p.vrs.length := ⟨_, rfl⟩
  obtain ⟨n3, hn3⟩ : ∃ q, q = p.outs.length := ⟨_, rfl⟩
  obtain ⟨n4, hn4⟩ : ∃ q, q = p.lns.length := ⟨_, rfl⟩
  simp only [← hs0, ← hs4, ← hn1, ← hn2, ← hn3, ← hn4] at PF ⊢
  clear hs0 hs4 hn1 hn2 hn3 hn4
  have q0 : (w.alloc (.cells #[.string s0, .slice a1 n1 c1, .slice a2 n2 c2, .slice a3 n3 c3, .string s4, .slice a4 n4 c4] 27)).cell? ⟨w.heap.size, 0, none⟩ = some (.string s0) := by rw [cell_of_row _ _ 0 _ _ (0, 0) (heap_alloc_new w _)]; rfl
  have q1 : (w.alloc (.cells #[.string s0, .slice a1 n1 c1, .slice a2 n2 c2, .slice a3 n3 c3, .string s4, .slice a4 n4 c4] 27)).cell? ⟨w.heap.size, 1, none⟩ = some (.slice a1 n1 c1) := by rw [cell_of_row _ _ 1 _ _ (0, 0) (heap_alloc_new w _)]; rfl
  have q2 : (w.alloc (.cells #[.string s0, .slice a1 n1 c1, .slice a2 n2 c2, .slice a3 n3 c3, .string s4, .slice a4 n4 c4] 27)).cell? ⟨w.heap.size, 2, none⟩ = some (.slice a2 n2 c2) := by rw [cell_of_row _ _ 2 _ _ (0, 0) (heap_alloc_new w _)]; rfl
  have q3 : (w.alloc (.cells #[.string s0, .slice a1 n1 c1, .slice a2 n2 c2, .slice a3 n3 c3, .string s4, .slice a4 n4 c4] 27)).cell? ⟨w.heap.size, 3, none⟩ = some (.slice a3 n3 c3) := by rw [cell_of_row _ _ 3 _ _ (0, 0) (heap_alloc_new w _)]; rfl
  have q4 : (w.alloc (.cells #[.string s0, .slice a1 n1 c1, .slice a2 n2 c2, .slice a3 n3 c3, .string s4, .slice a4 n4 c4] 27)).cell? ⟨w.heap.size, 4, none⟩ = some (.string s4) := by rw [cell_of_row _ _ 4 _ _ (0, 0) (heap_alloc_new w _)]; rfl
  have q5 : (w.alloc (.cells #[.string s0, .slice a1 n1 c1, .slice a2 n2 c2, .slice a3 n3 c3, .string s4, .slice a4 n4 c4] 27)).cell? ⟨w.heap.size, 5, none⟩ = some (.slice a4 n4 c4) := by rw [cell_of_row _ _ 5 _ _ (0, 0) (heap_alloc_new w _)]; rfl
  have hW0 : w.heap.size < (w.alloc (.cells #[.string s0, .slice a1 n1 c1, .slice a2 n2 c2, .slice a3 n3 c3, .string s4, .slice a4 n4 c4] 27)).heap.size := by rw [World.size_alloc]; exact Nat.lt_succ_self _
  have C0 : Hid (∀ W', Later (w.alloc (.cells #[.string s0, .slice a1 n1 c1, .slice a2 n2 c2, .slice a3 n3 c3, .string s4, .slice a4 n4 c4] 27)) W' → W'.cell? ⟨w.heap.size, 0, none⟩ = some (.string s0) ∧ W'.cell? ⟨w.heap.size, 1, none⟩ = some (.slice a1 n1 c1) ∧ W'.cell? ⟨w.heap.size, 2, none⟩ = some (.slice a2 n2 c2) ∧ W'.cell? ⟨w.heap.size, 3, none⟩ = some (.slice a3 n3 c3) ∧ W'.cell? ⟨w.heap.size, 4, none⟩ = some (.string s4) ∧ W'.cell? ⟨w.heap.size, 5, none⟩ = some (.slice a4 n4 c4)) := Lib.hid (fun W' q => ⟨by rw [q.cell (p := ⟨w.heap.size, 0, none⟩) hW0]; exact q0, by rw [q.cell (p := ⟨w.heap.size, 1, none⟩) hW0]; exact q1, by rw [q.cell (p := ⟨w.heap.size, 2, none⟩) hW0]; exact q2, by rw [q.cell (p := ⟨w.heap.size, 3, none⟩) hW0]; exact q3, by rw [q.cell (p := ⟨w.heap.size, 4, none⟩) hW0]; exact q4, by rw [q.cell (p := ⟨w.heap.size, 5, none⟩) hW0]; exact q5⟩)
  have A0 : Hid (Later w (w.alloc (.cells #[.string s0, .slice a1 n1 c1, .slice a2 n2 c2, .slice a3 n3 c3, .string s4, .slice a4 n4 c4] 27))) := Lib.hid ((Later.refl _).alloc _)
  clear hW0
  have key : (r2 = 1 ∧ V = 1) ∨ (r2 = 0 ∧ r1 = 0 ∧ V = 0) ∨ (r2 = 0 ∧ (r1 == 0) = false ∧ V = 5) := by
    have h1 := HV.out; have h2 := HP1.out; have h3 := HP2.out
    cases b
    · left; exact ⟨h3, h1⟩
    · by_cases hr : r = 0
      · right; left
        rw [if_pos rfl] at h1 h2 h3
        rw [if_pos hr] at h1
        exact ⟨h3, h2.trans hr, h1⟩
      · right; right
        rw [if_pos rfl] at h1 h2 h3
        rw [if_neg hr] at h1
        exact ⟨h3, by rw [h2]; simpa using hr, h1⟩
  clear HV HP1 HP2
  rcases key with ⟨rfl, rfl⟩ | ⟨rfl, rfl, rfl⟩ | ⟨rfl, hr, rfl⟩
  all_goals
    go_enter Tryd.func57, Tryd.ntmps57
    go_wp2_with fail
    generalize (w.alloc (.cells #[.string s0, .slice a1 n1 c1, .slice a2 n2 c2, .slice a3 n3 c3, .string s4, .slice a4 n4 c4] 27)) = W0 at C0 A0 q0 q1 q2 q3 q4 q5 ⊢
    refine (PF.out _ A0.out).mono ?_
    rintro e w1 ⟨rfl, hb⟩
    have B1 := Lib.hid (Later.trans A0.out hb)
    clear hb q0 q1 q2 q3 q4 q5
    go_wp2_with fail
    all_goals
      go_ret
      exact ⟨rfl, B1.out⟩
theorem i_IsSound (base : Nat) (v : Value) (p : Prg) (w : World) (hp : PgC base w v p) (ho : Ops w) (hl : p.lns.length ≤ 1048576) :
    Calls Tryd.prog 19 #[v] w fun e w' => e = .returned (.bool (isS p)) ∧ Later w w' := by
  have PF := Lib.hid (fun W (h : Later w W) => i_soundError base v p W (hp.later h) (ho.later h) hl)
  have HV : Hid (isS p = decide (seV p = 0)) := Lib.hid rfl
  obtain ⟨a1, c1, a2, c2, a3, c3, a4, c4, rfl, _, _, _, _, _, _⟩ := hp.pgv
  clear hp ho hl
  generalize seV p = r at PF HV
  obtain ⟨s0, hs0⟩ : ∃ q, q = tx p.nm := ⟨_, rfl⟩
  obtain ⟨s4, hs4⟩ : ∃ q, q = tx p.grd := ⟨_, rfl⟩
  obtain ⟨n1, hn1⟩ : ∃ q, q = p.ins.length := ⟨_, rfl⟩
  obtain ⟨n2, hn2⟩ : ∃ q, q = p.vrs.length := ⟨_, rfl⟩
  obtain ⟨n3, hn3⟩ : ∃ q, q = p.outs.length := ⟨_, rfl⟩
  obtain ⟨n4, hn4⟩ : ∃ q, q = p.lns.length := ⟨_, rfl⟩
  simp only [← hs0, ← hs4, ← hn1, ← hn2, ← hn3, ← hn4] at PF ⊢
  clear hs0 hs4 hn1 hn2 hn3 hn4
  have q0 : (w.alloc (.cells #[.string s0, .slice a1 n1 c1, .slice a2 n2 c2, .slice a3 n3 c3, .string s4, .slice a4 n4 c4] 27)).cell? ⟨w.heap.size, 0, none⟩ = some (.string s0) := by rw [cell_of_row _ _ 0 _ _ (0, 0) (heap_alloc_new w _)]; rfl
  have q1 : (w.alloc (.cells #[.string s0, .slice a1 n1 c1, .slice a2 n2 c2, .slice a3 n3 c3, .string s4, .slice a4 n4 c4] 27)).cell? ⟨w.heap.size, 1, none⟩ = some (.slice a1 n1 c1) := by rw [cell_of_row _ _ 1 _ _ (0, 0) (heap_alloc_new w _)]; rfl
  have q2 : (w.alloc (.cells #[.string s0, .slice a1 n1 c1, .slice a2 n2 c2, .slice a3 n3 c3, .string s4, .slice a4 n4 c4] 27)).cell? ⟨w.heap.size, 2, none⟩ = some (.slice a2 n2 c2) := by rw [cell_of_row _ _ 2 _ _ (0, 0) (heap_alloc_new w _)]; rfl
  have q3 : (w.alloc (.cells #[.string s0, .slice a1 n1 c1, .slice a2 n2 c2, .slice a3 n3 c3, .string s4, .slice a4 n4 c4] 27)).cell? ⟨w.heap.size, 3, none⟩ = some (.slice a3 n3 c3) := by rw [cell_of_row _ _ 3 _ _ (0, 0) (heap_alloc_new w _)]; rfl
  have q4 : (w.alloc (.cells #[.string s0, .slice a1 n1 c1, .slice a2 n2 c2, .slice a3 n3 c3, .string s4, .slice a4 n4 c4] 27)).cell? ⟨w.heap.size, 4, none⟩ = some (.string s4) := by rw [cell_of_row _ _ 4 _ _ (0, 0) (heap_alloc_new w _)]; rfl
  have q5 : (w.alloc (.cells #[.string s0, .slice a1 n1 c1, .slice a2 n2 c2, .slice a3 n3 c3, .string s4, .slice a4 n4 c4] 27)).cell? ⟨w.heap.size, 5, none⟩ = some (.slice a4 n4 c4) := by rw [cell_of_row _ _ 5 _ _ (0, 0) (heap_alloc_new w _)]; rfl
  have hW0 : w.heap.size < (w.alloc (.cells #[.string s0, .slice a1 n1 c1, .slice a2 n2 c2, .slice a3 n3 c3, .string s4, .slice a4 n4 c4] 27)).heap.size := by rw [World.size_alloc]; exact Nat.lt_succ_self _
  have C0 : Hid (∀ W', Later (w.alloc (.cells #[.string s0, .slice a1 n1 c1, .slice a2 n2 c2, .slice a3 n3 c3, .string s4, .slice a4 n4 c4] 27)) W' → W'.cell? ⟨w.heap.size, 0, none⟩ = some (.string s0) ∧ W'.cell? ⟨w.heap.size, 1, none⟩ = some (.slice a1 n1 c1) ∧ W'.cell? ⟨w.heap.size, 2, none⟩ = some (.slice a2 n2 c2) ∧ W'.cell? ⟨w.heap.size, 3, none⟩ = some (.slice a3 n3 c3) ∧ W'.cell? ⟨w.heap.size, 4, none⟩ = some (.string s4) ∧ W'.cell? ⟨w.heap.size, 5, none⟩ = some (.slice a4 n4 c4)) := Lib.hid (fun W' q => ⟨by rw [q.cell (p := ⟨w.heap.size, 0, none⟩) hW0]; exact q0, by rw [q.cell (p := ⟨w.heap.size, 1, none⟩) hW0]; exact q1, by rw [q.cell (p := ⟨w.heap.size, 2, none⟩) hW0]; exact q2, by rw [q.cell (p := ⟨w.heap.size, 3, none⟩) hW0]; exact q3, by rw [q.cell (p := ⟨w.heap.size, 4, none⟩) hW0]; exact q4, by rw [q.cell (p := ⟨w.heap.size, 5, none⟩) hW0]; exact q5⟩)
  have A0 : Hid (Later w (w.alloc (.cells #[.string s0, .slice a1 n1 c1, .slice a2 n2 c2, .slice a3 n3 c3, .string s4, .slice a4 n4 c4] 27))) := Lib.hid ((Later.refl _).alloc _)
  clear hW0
  go_enter Tryd.func19, Tryd.ntmps19
  go_wp2_with fail
  generalize (w.alloc (.cells #[.string s0, .slice a1 n1 c1, .slice a2 n2 c2, .slice a3 n3 c3, .string s4, .slice a4 n4 c4] 27)) = W0 at C0 A0 q0 q1 q2 q3 q4 q5 ⊢
  refine (PF.out _ A0.out).mono ?_
  rintro e w1 ⟨rfl, hb⟩
  have B1 := Lib.hid (Later.trans A0.out hb)
  clear hb q0 q1 q2 q3 q4 q5
  go_wp2_with fail
  all_goals
    go_ret
    exact ⟨by rw [HV.out]; exact ret_b (by by_cases h : r = 0 <;> simp [h]), B1.out⟩
end Go.Proofs.YtokipobjpinhmaaDoor
