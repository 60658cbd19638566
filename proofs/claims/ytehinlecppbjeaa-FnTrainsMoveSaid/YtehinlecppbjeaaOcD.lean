/- Drawn lengths and distances of chapter 5. -/
import Derived.Test.YtehinlecppbjeaaSgH
import Derived.Test.YtehinlecppbjeaaDL
import Derived.Test.YtehinlecppbjeaaOcM
import Derived.IntWalk
namespace Go.Proofs.Ytehinlecppbjeaa
open Go.RowKit
set_option maxHeartbeats 4000000
set_option linter.unusedVariables false
set_option linter.unusedSimpArgs false
theorem tot_sm {L : List Sg} {n : Nat} (hl : L.length = n) (h26 : n ≤ 26) (hsm : ∀ x ∈ L, SmW x) : -273000000 ≤ totL L ∧ totL L ≤ 273000000 := by
  have t := upL_sm L hsm L.length (Nat.le_refl _)
  unfold totL; rw [hl] at t ⊢; omega
set_option maxRecDepth 100000 in
theorem s_DrawLength5 (B : Nat) (a : Option Addr) (len cap : Nat) (a' : Option Addr) (n cap' : Nat) (L : List Sg) (w : World) (hs : Src w B a len cap) (hl : Sgs w a' n L) (h26 : n ≤ 26) (hsm : ∀ x ∈ L, SmW x) (hne : ∀ x, a' = some x → 0 < n → x.block ≠ B) :
    Calls Try.prog 74 #[.pointer (some ⟨B, 0, none⟩), .agg #[.slice a' n cap']] w (Drawn w B a len cap (fun r => -1 ≤ r ∧ r ≤ 300000000 ∨ -300000000 ≤ r ∧ r ≤ 300000000)) := by
  have HS := Lib.hid hs
  have HL := Lib.hid hl
  have SM := Lib.hid hsm
  obtain ⟨t1, t2⟩ := tot_sm hl.1 h26 hsm
  have hBlt := hs.lt
  have HNE := Lib.hid hne
  clear hs hl hsm hne
  go_enter Try.func74, Try.ntmps74
  go_wp2_with fail
  have T0 := Lib.hid ((St.begin HS.out).box1 (.slice a' n cap') 26)
  refine (s_Next B a len cap 20 _ T0.out.src (by omega) (by omega)).mono ?_
  rintro e w1 ⟨c, rfl, x0, x1, x2, src, gr⟩
  have T1 := Lib.hid (T0.out.call src gr)
  have L1 := Lib.hid ((HL.out.later ((Later.refl _).alloc _)).grown0 gr (fun x hx hn e => by have h1 := HNE.out x hx hn; have h2 := Option.some.inj e; omega))
  clear gr src x2
  by_cases c0 : c = 0
  · subst c0
    obtain ⟨d1, d2⟩ := St.s1 T1.out
    have hb1 := cell_lt d1
    have KG : Hid (∀ W', Later w1 W' → W'.cell? ⟨w.heap.size, 0, none⟩ = some (.slice a' n cap')) := Lib.hid (fun W' k => by rw [k.cell (p := ⟨w.heap.size, 0, none⟩) hb1]; exact d1)
    have hwr : IntKind.i64.wrap (totL L + 1) = totL L + 1 := IntWalk.i64_in _ (by omega)
    go_wp2_with fail
    go_region_held3 (fun w' => w'.cell? ⟨w.heap.size, 0, none⟩ = some (.slice a' n cap')) (first | (refine KG.out _ ?_; ((repeat (first | (with_reducible exact Later.refl _) | (with_reducible exact Hid.out (by assumption)) | (with_reducible refine Later.alloc ?_ _) | (with_reducible refine Later.setCell ?_ (by simp; omega) _) | (with_reducible refine Later.setCell ?_ (by simp) _) | (with_reducible refine Later.drewN ?_ _) | (with_reducible refine Later.drew ?_) | (with_reducible refine Later.trans ?_ (Hid.out (by assumption))))); done)) | (refine (St.s1 (B := B) (a := a) (len := len) (cap := cap) (w0 := w) (Hid.out ?_)).1; assumption))
      (first
        | (go_at_call 73; refine (s_Total_sm a' n cap' L _ (L1.out.later (by repeat (first | (with_reducible exact Later.refl _) | (with_reducible exact Hid.out (by assumption)) | (with_reducible refine Later.alloc ?_ _) | (with_reducible refine Later.setCell ?_ (by simp; omega) _) | (with_reducible refine Later.setCell ?_ (by simp) _) | (with_reducible refine Later.drewN ?_ _) | (with_reducible refine Later.drew ?_) | (with_reducible refine Later.trans ?_ (Hid.out (by assumption)))))) h26 SM.out).mono ?_; rintro e w4 ⟨rfl, hb⟩; have H4 := Lib.hid hb; clear hb; have z4 : w1.heap.size ≤ w4.heap.size := (show Later w1 w4 from (by repeat (first | (with_reducible exact Later.refl _) | (with_reducible exact Hid.out (by assumption)) | (with_reducible refine Later.alloc ?_ _) | (with_reducible refine Later.setCell ?_ (by simp; omega) _) | (with_reducible refine Later.setCell ?_ (by simp) _) | (with_reducible refine Later.drewN ?_ _) | (with_reducible refine Later.drew ?_) | (with_reducible refine Later.trans ?_ (Hid.out (by assumption)))))).size)
        | (go_at_call 120; refine (s_Pick B a len cap _ 7 7 [0, 1, -1, 40000, 40001, totL L, totL L + 1] _ (T1.out.later (by repeat (first | (with_reducible exact Later.refl _) | (with_reducible exact Hid.out (by assumption)) | (with_reducible refine Later.alloc ?_ _) | (with_reducible refine Later.setCell ?_ (by simp; omega) _) | (with_reducible refine Later.setCell ?_ (by simp) _) | (with_reducible refine Later.drewN ?_ _) | (with_reducible refine Later.drew ?_) | (with_reducible refine Later.trans ?_ (Hid.out (by assumption)))))).src (sl_new _ [0, 1, -1, 40000, 40001, totL L, totL L + 1] 2 (by simp) (by intro x hx; simp at hx; unfold InR; omega)) (by simp; omega) (by omega)).mono ?_; rintro e w5 ⟨v, rfl, hv, src, gr⟩; have HV : Hid (-300000000 ≤ v ∧ v ≤ 300000000) := Lib.hid (by simp at hv; omega); have T5 := Lib.hid ((T1.out.later (by repeat (first | (with_reducible exact Later.refl _) | (with_reducible exact Hid.out (by assumption)) | (with_reducible refine Later.alloc ?_ _) | (with_reducible refine Later.setCell ?_ (by simp; omega) _) | (with_reducible refine Later.setCell ?_ (by simp) _) | (with_reducible refine Later.drewN ?_ _) | (with_reducible refine Later.drew ?_) | (with_reducible refine Later.trans ?_ (Hid.out (by assumption)))))).call src gr); clear src gr hv))
    all_goals
      go_wp2_with fail
      go_ret
      exact ⟨v, rfl, .inr HV.out, T5.out.src, T5.out.grown⟩
  · have e0 : (c == 0) = false := by simpa using c0
    clear c0
    go_wp2_with fail
    refine (s_Next B a len cap 12000 _ T1.out.src (by omega) (by omega)).mono ?_
    rintro e w2 ⟨v, rfl, v0, v1, v2, src, gr⟩
    have T2 := Lib.hid (T1.out.call src gr)
    have hv := v1 (by omega)
    clear gr src v1 v2
    go_wp2_with fail
    go_ret
    exact ⟨1000 + v, rfl, .inr (by omega), T2.out.src, T2.out.grown⟩
set_option maxRecDepth 100000 in
theorem s_DrawDistance5 (B : Nat) (a : Option Addr) (len cap : Nat) (a' : Option Addr) (n cap' : Nat) (L : List Sg) (w : World) (hs : Src w B a len cap) (hl : Sgs w a' n L) (h26 : n ≤ 26) (hsm : ∀ x ∈ L, SmW x) :
    Calls Try.prog 69 #[.pointer (some ⟨B, 0, none⟩), .agg #[.slice a' n cap']] w (Drawn w B a len cap InR) := by
  have HS := Lib.hid hs
  have HL := Lib.hid hl
  have SM := Lib.hid hsm
  obtain ⟨t1, t2⟩ := tot_sm hl.1 h26 hsm
  have hBlt := hs.lt
  clear hs hl hsm
  have key : ∀ m : Int, (totL L ≤ 1 ∧ m = 1) ∨ (1 < totL L ∧ m = totL L) → Calls Try.prog 69 #[.pointer (some ⟨B, 0, none⟩), .agg #[.slice a' n cap']] w (Drawn w B a len cap InR) := by
    intro m hm
    go_enter Try.func69, Try.ntmps69
    go_wp2_with fail
    have T0 := Lib.hid ((St.begin HS.out).box1 (.slice a' n cap') 26)
    refine (s_Total_sm a' n cap' L _ (HL.out.later ((Later.refl _).alloc _)) h26 SM.out).mono ?_
    rintro e w1 ⟨rfl, hb⟩
    have T1 := Lib.hid (T0.out.later hb)
    clear hb
    rcases hm with ⟨h1, rfl⟩ | ⟨h1, rfl⟩
    all_goals
      go_wp2_with fail
      refine (s_Next B a len cap _ _ T1.out.src (by omega) (by omega)).mono ?_
      rintro e w2 ⟨x, rfl, x0, x1, x2, src, gr⟩
      have T2 := Lib.hid (T1.out.call src gr)
      have hx : x ≤ 300000000 := by first | (have := x1 (by omega); omega) | (have := x2 (by omega); omega)
      clear gr src x1 x2
      go_wp2_with fail
      refine (s_Next B a len cap _ _ T2.out.src (by omega) (by omega)).mono ?_
      rintro e w3 ⟨y, rfl, y0, y1, y2, src, gr⟩
      have T3 := Lib.hid (T2.out.call src gr)
      have hy := y1 (by omega)
      clear gr src y1 y2
      go_wp2_with fail
      refine (s_Next B a len cap _ _ T3.out.src (by omega) (by omega)).mono ?_
      rintro e w4 ⟨z, rfl, z0, z1, z2, src, gr⟩
      have T4 := Lib.hid (T3.out.call src gr)
      have hz : z ≤ 300000000 := by first | (have := z1 (by omega); omega) | (have := z2 (by omega); omega)
      clear gr src z1 z2
      go_wp2_with fail
      have hl3 := sl_new w4 [0, -1, totL L + 1] 2 (by simp) (by intro x hx; simp at hx; unfold InR; omega)
      refine (s_Pick B a len cap ⟨w4.heap.size, 0, none⟩ 3 3 _ _ (T4.out.src.alloc _) hl3 (by have := T4.out.src.lt; show w4.heap.size ≠ B; omega) (by omega)).mono ?_
      rintro e w5 ⟨u, rfl, hu, src, gr⟩
      have T5 := Lib.hid ((T4.out.alloc _).call src gr)
      have hu2 : -300000000 ≤ u ∧ u ≤ 300000000 := by simp at hu; omega
      clear gr src hu hl3
      go_wp2_with fail
      have hl5 := sl_new w5 [x, y, z, totL L, u] 2 (by simp) (by intro x hx; simp at hx; unfold InR; omega)
      refine (s_Pick B a len cap ⟨w5.heap.size, 0, none⟩ 5 5 _ _ (T5.out.src.alloc _) hl5 (by have := T5.out.src.lt; show w5.heap.size ≠ B; omega) (by omega)).mono ?_
      rintro e w6 ⟨v, rfl, hv, src, gr⟩
      have T6 := Lib.hid ((T5.out.alloc _).call src gr)
      have HV : Hid (InR v) := Lib.hid (by simp at hv; unfold InR; omega)
      clear gr src hv hl5
      go_wp2_with fail
      go_ret
      exact ⟨v, rfl, HV.out, T6.out.src, T6.out.grown⟩
  by_cases hT : totL L ≤ 1
  · exact key 1 (.inl ⟨hT, rfl⟩)
  · exact key (totL L) (.inr ⟨by omega, rfl⟩)
end Go.Proofs.Ytehinlecppbjeaa
