/- Expression lists, of the model: how many values are there at the same time. -/
import Derived.Test.YtokipobjpinhmaaDoorPsS
import Derived.Test.YtokipobjpinhmaaDoorOwn
namespace Go.Proofs.YtokipobjpinhmaaDoor
open Go.RowKit Go.Shelf
set_option maxHeartbeats 4000000
set_option maxRecDepth 100000
set_option linter.unusedVariables false
set_option linter.unusedSimpArgs false
/-- the heights behind the first k terms, one by one -/
def hgL (L : List Trm) (k : Nat) : List Int := (List.range k).map fun j => (hAt L (j + 1) : Int)
theorem hgL_len (L : List Trm) (k : Nat) : (hgL L k).length = k := by simp [hgL]
theorem hgL_succ (L : List Trm) (k : Nat) : hgL L (k + 1) = hgL L k ++ [(hAt L (k + 1) : Int)] := by
  unfold hgL; rw [List.range_succ, List.map_append]; rfl
theorem hgL_gx (L : List Trm) (n j : Nat) (h : j < n) : gx (hgL L n) j = (hAt L (j + 1) : Int) := by
  rw [gx_of _ _ (by rw [hgL_len]; exact h)]; simp [hgL]
theorem ownK_lat {w w' : World} {base : Nat} {v : Value} {l : List Int} (h : Own w base v l) (k : Later w w') : Own w' base v l :=
  h.kept (row := none) ⟨k.os, k.tape, k.output, k.size, fun i hi _ => k.block i hi⟩ (fun _ e => by cases e)
theorem okR_kndS (L : List Trm) (k : Nat) (h : trmB (rkx L k) (rsx L k) (rnx L k) = true) : 1 ≤ rkx L k ∧ rkx L k ≤ 12 := by
  simp [trmB, kndT] at h; omega
/-- what l13Heights tells: whether the terms are an expression list, and if so the heights -/
def HgC (w : World) (n : Nat) (L : List Trm) (e : Ending) (w' : World) : Prop :=
  ∃ (a : Option Addr) (m cap : Nat), e = .returned (.tuple #[.slice a m cap, .bool (exB L)]) ∧ Later w w' ∧ (exB L = true → m = n ∧ Sl w' a n (hgL L n))
theorem s_Heights (a : Option Addr) (n cap : Nat) (L : List Trm) (w : World) (hs : Trs w a n L) (hn2 : n ≤ 1000000000) :
    Calls Tryd.prog 122 #[.slice a n cap] w (HgC w n L) := by
  have HS := Lib.hid hs
  have HL := Lib.hid hs.1
  have hn := hs.2.1
  clear hs
  go_enter Tryd.func122, Tryd.ntmps122
  go_wp2_with fail
  have hon := own_new w w.heap.size (Nat.le_refl _)
  have hln : Later w (w.alloc (.cells #[] 2)) := (Later.refl _).alloc _
  generalize w.alloc (.cells #[] 2) = w1 at hon hln ⊢
  generalize Value.slice (some ⟨w.heap.size, 0, none⟩) 0 0 = v1 at hon ⊢
  have HO := Lib.hid hon
  have HN := Lib.hid hln
  clear hon hln
  go_loopw [4, 5, 6] (fun v h i wr => ∃ k : Nat, k ≤ n ∧ i = .int .i64 k ∧ h = .int .i64 (hAt L k : Nat) ∧ Own wr w.heap.size v (hgL L k) ∧ Later w wr ∧ Hid (∀ j, j < k → okR L j = true)) (fun _ _ i _ => n - (intOf i).toNat)
  case atStart => exact ⟨0, by omega, rfl, rfl, HO.out, HN.out, Lib.hid (by intro j h; omega)⟩
  case round =>
    obtain ⟨k, hk, rfl, rfl, ho, hb, HI⟩ := hrel
    have B3 := Lib.hid hb
    have O3 := Lib.hid ho
    clear ho HO HN
    by_cases hlt : k < n
    · obtain ⟨b, off, rfl, c0, c1, c2⟩ := (HS.out.later hb).2.2.1 k hlt
      obtain ⟨r1, r2, r3⟩ := HS.out.rng k hlt
      have IT := Lib.hid (fun W => s_Term (rkx L k) (rsx L k) (rnx L k) W r1 r2 r3)
      have TK := Lib.hid (fun W => s_Takes (rkx L k) W)
      have HOK : Hid (okR L k = (trmB (rkx L k) (rsx L k) (rnx L k) && decide (tkK (rkx L k) ≤ hAt L k))) := Lib.hid rfl
      have HH : Hid (hAt L (k + 1) = hAt L k + 1 - tkK (rkx L k)) := Lib.hid rfl
      have HG := Lib.hid (hgL_succ L k)
      have hll := hgL_len L k
      have hh := hAt_le L k
      obtain ⟨x, hx⟩ : ∃ x, x = rkx L k := ⟨_, rfl⟩
      obtain ⟨y, hy⟩ : ∃ y, y = tx (rsx L k) := ⟨_, rfl⟩
      obtain ⟨z, hz⟩ : ∃ x, x = rnx L k := ⟨_, rfl⟩
      obtain ⟨t, ht⟩ : ∃ t, t = trmB (rkx L k) (rsx L k) (rnx L k) := ⟨_, rfl⟩
      obtain ⟨h, hhe⟩ : ∃ h, h = hAt L k := ⟨_, rfl⟩
      obtain ⟨v0, hv⟩ : ∃ v, v = tkK (rkx L k) := ⟨_, rfl⟩
      rw [← ht] at IT HOK
      rw [← hhe] at HOK HH hh ⊢
      rw [← hv] at HOK HH TK
      have hv2 : v0 ≤ 2 := by rw [hv]; exact tkK_le _
      rw [← hx] at c0 IT TK hv; rw [← hy] at c1 IT; rw [← hz] at c2 IT
      clear hx hy hz ht hhe hb hv
      cases t
      · have HB : Hid (exB L = false) := Lib.hid (exB_bad L k (by rw [HL.out]; exact hlt) (by rw [HOK.out]; rfl))
        go_wp2_with (go_at_call 136; refine (IT.out _).mono ?_; rintro e w2 ⟨rfl, hb⟩; have H2 := Lib.hid hb; clear hb)
        all_goals
          refine bodyPost_ret (v := .tuple #[.slice none 0 0, .bool false]) (by simp [results, Tryd.results122, go_sem, *]) rfl ⟨none, 0, 0, by rw [HB.out], (by repeat (first | (with_reducible exact Later.refl _) | (with_reducible exact Hid.out (by assumption)) | (with_reducible refine Later.alloc ?_ _) | (with_reducible refine Later.setCell ?_ (by simp; omega) _) | (with_reducible refine Later.setCell ?_ (by simp) _) | (with_reducible refine Later.drewN ?_ _) | (with_reducible refine Later.drew ?_) | (with_reducible refine Later.trans ?_ (Hid.out (by assumption))))), by rw [HB.out]; intro hf; cases hf⟩
      · by_cases hvh : v0 ≤ h
        · have HB : Hid (okR L k = true) := Lib.hid (by rw [HOK.out, decide_eq_true hvh]; rfl)
          obtain ⟨h', hh'⟩ : ∃ q, q = h + 1 - v0 := ⟨_, rfl⟩
          rw [← hh'] at HH
          have e1 : IntKind.i64.wrap ((h : Int) - (v0 : Int)) = (h : Int) - (v0 : Int) := IntWalk.i64_in _ (by omega)
          have e2 : IntKind.i64.wrap ((h : Int) - (v0 : Int) + 1) = ((h' : Nat) : Int) := by rw [show (h : Int) - (v0 : Int) + 1 = ((h' : Nat) : Int) by omega]; exact IntWalk.i64_in _ (by omega)
          have hlt2 : ¬ h < v0 := by omega
          have HR : Hid (InR ((h' : Nat) : Int)) := Lib.hid ⟨by omega, by omega⟩
          have KL : Hid (∀ W', Later wr W' → W'.cell? ⟨b, off + k * 3, none⟩ = some (.int .i64 x)) := Lib.hid (fun W' q => by rw [q.cell (p := ⟨b, off + k * 3, none⟩) (cell_lt c0)]; exact c0)
          have RL : Hid (Later wr wr) := Lib.hid (Later.refl _)
          clear hh'
          go_wp2_with (first | (go_at_call 136; refine (IT.out _).mono ?_; rintro e w2 ⟨rfl, hb⟩; have c0 := KL.out _ hb; have O4 := Lib.hid (ownK_lat O3.out hb); have H2 := Lib.hid (Later.trans B3.out hb); clear hb) | (go_at_call 133; refine (TK.out _).mono ?_; rintro e w' ⟨rfl, rfl⟩) | (at_builtin; go_must (refine app1 rfl _ _ rfl w.heap.size _ _ _ _ _ O4.out rfl rfl HR.out (by omega) H2.out.size ?_; intro v' w5 ho hg; have O5 := Lib.hid ho; have H5 : Hid (Later w w5) := Lib.hid (Below.grown H2.out hg H2.out.size (fun q e => (O4.out.lt q e).1)); clear ho hg)))
          all_goals
            go_roundw
            case rel =>
              refine ⟨k + 1, by omega, by go_num, by rw [HH.out], by rw [HG.out, HH.out]; exact O5.out, H5.out, Lib.hid ?_⟩
              intro q hq
              rcases Nat.lt_or_ge q k with h1 | h1
              · exact HI.out q h1
              · obtain rfl : q = k := by omega
                exact HB.out
            case measure => simp [intOf]; omega
        · have HB : Hid (exB L = false) := Lib.hid (exB_bad L k (by rw [HL.out]; exact hlt) (by rw [HOK.out, decide_eq_false hvh]; rfl))
          have hlt2 : h < v0 := by omega
          have KL : Hid (∀ W', Later wr W' → W'.cell? ⟨b, off + k * 3, none⟩ = some (.int .i64 x)) := Lib.hid (fun W' q => by rw [q.cell (p := ⟨b, off + k * 3, none⟩) (cell_lt c0)]; exact c0)
          go_wp2_with (first | (go_at_call 136; refine (IT.out _).mono ?_; rintro e w2 ⟨rfl, hb⟩; have c0 := KL.out _ hb; have H2 := Lib.hid hb; clear hb) | (go_at_call 133; refine (TK.out _).mono ?_; rintro e w' ⟨rfl, rfl⟩))
          all_goals
            refine bodyPost_ret (v := .tuple #[.slice none 0 0, .bool false]) (by simp [results, Tryd.results122, go_sem, *]) rfl ⟨none, 0, 0, by rw [HB.out], (by repeat (first | (with_reducible exact Later.refl _) | (with_reducible exact Hid.out (by assumption)) | (with_reducible refine Later.alloc ?_ _) | (with_reducible refine Later.setCell ?_ (by simp; omega) _) | (with_reducible refine Later.setCell ?_ (by simp) _) | (with_reducible refine Later.drewN ?_ _) | (with_reducible refine Later.drew ?_) | (with_reducible refine Later.trans ?_ (Hid.out (by assumption))))), by rw [HB.out]; intro hf; cases hf⟩
    · obtain rfl : k = n := by omega
      have HA := Lib.hid HI.out
      obtain ⟨a', c', hv, hsl, _⟩ := O3.out.sl
      rw [hgL_len] at hv hsl
      subst hv
      have HSL := Lib.hid hsl
      clear hb hsl
      have hh := hAt_le L k
      have HX : Hid (exB L = (decide (hAt L k = 1) && decide (k ≤ 40))) := Lib.hid (by
        unfold exB
        rw [alR_all L (by rw [HL.out]; exact HI.out), HL.out, Bool.and_true, Bool.and_comm])
      obtain ⟨h, hhe⟩ : ∃ h, h = hAt L k := ⟨_, rfl⟩
      rw [← hhe] at hh HX ⊢
      clear hhe
      by_cases h1 : h = 1
      · subst h1
        go_wp2_with fail
        all_goals
          refine bodyPost_ret (v := .tuple #[.slice a' k c', .bool (exB L)]) (by rw [HX.out]; simp [results, Tryd.results122, go_sem, *] <;> omega) rfl ⟨a', k, c', rfl, B3.out, fun _ => ⟨rfl, HSL.out⟩⟩
      · have e1 : ((h : Int) == 1) = false := by simp; omega
        have HX2 : Hid (exB L = false) := Lib.hid (by rw [HX.out, decide_eq_false h1]; rfl)
        go_wp2_with fail
        all_goals
          refine bodyPost_ret (v := .tuple #[.slice a' k c', .bool false]) (by simp [results, Tryd.results122, go_sem, *]) rfl ⟨a', k, c', by rw [HX2.out], B3.out, by rw [HX2.out]; intro hf; cases hf⟩
theorem s_IsExpression (a : Option Addr) (n cap : Nat) (L : List Trm) (w : World) (hs : Trs w a n L) (hn2 : n ≤ 1000000000) :
    Calls Tryd.prog 97 #[.slice a n cap] w fun e w' => e = .returned (.bool (exB L)) ∧ Later w w' := by
  have IH := Lib.hid (s_Heights a n cap L w hs hn2)
  clear hs
  go_enter Tryd.func97, Tryd.ntmps97
  go_wp2_with (go_at_call 122; refine IH.out.mono ?_; rintro e w1 ⟨a', m', c', rfl, hb, hx⟩; have H1 := Lib.hid hb; clear hb hx)
  go_ret
  exact ⟨rfl, H1.out⟩
end Go.Proofs.YtokipobjpinhmaaDoor
