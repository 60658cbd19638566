/- Drawn positions of drawn layouts. -/
import Derived.Test.YtehinlecppbjeaaSgB
import Derived.Test.YtehinlecppbjeaaSgW
namespace Go.Proofs.Ytehinlecppbjeaa
open Go.RowKit
set_option maxHeartbeats 4000000
set_option linter.unusedVariables false
set_option linter.unusedSimpArgs false
theorem Sgs.grown {w w' : World} {a : Option Addr} {n : Nat} {L : List Sg} {row : Option Nat} (h : Sgs w a n L) (hg : w.grownBy w' row) (hne : ∀ x, a = some x → row ≠ some x.block) : Sgs w' a n L := by
  obtain ⟨h1, h2, h3, h4⟩ := h
  refine ⟨h1, h2, fun k hk => ?_, h4⟩
  obtain ⟨b, off, rfl, hc⟩ := h3 k hk
  exact ⟨b, off, rfl, fun j hj => hg.cell (hc j hj) (fun e => hne ⟨b, off, none⟩ rfl e.symm)⟩
/-- a length that a drawn layout may have -/
def SmW (x : Sg) : Prop := -10500000 ≤ x.l ∧ x.l ≤ 10500000
theorem SmS.w {x : Sg} (h : SmS x) : SmW x := ⟨by have := h.2.1.1; omega, by have := h.2.1.2; omega⟩
theorem upL_sm (L : List Sg) (h : ∀ x ∈ L, SmW x) (k : Nat) (hk : k ≤ L.length) : -10500000 * (k : Int) ≤ upL L k ∧ upL L k ≤ 10500000 * (k : Int) := by
  induction k with
  | zero => simp [upL_0]
  | succ k ih =>
    obtain ⟨i1, i2⟩ := ih (by omega)
    obtain ⟨l1, l2⟩ := h _ (sx_mem L k (by omega))
    rw [upL_succ L k (by omega)]
    omega
theorem s_Total_sm (a : Option Addr) (n cap : Nat) (L : List Sg) (w : World) (hs : Sgs w a n L) (h26 : n ≤ 26) (hsm : ∀ x ∈ L, SmW x) :
    Calls Try.prog 73 #[.agg #[.slice a n cap]] w fun e w' => e = .returned (.int .i64 (totL L)) ∧ Later w w' := by
  have HS := Lib.hid hs
  have HL := Lib.hid hs.1
  have SM := Lib.hid hsm
  clear hs hsm
  go_enter Try.func73, Try.ntmps73
  go_wp2_with fail
  go_loop [3, 4] (fun hh i => ∃ k : Nat, k ≤ n ∧ i = .int .i64 k ∧ hh = .int .i64 (upL L k)) (fun _ i => n - (intOf i).toNat)
  case atStart => exact ⟨0, by omega, rfl, by rw [upL_0]⟩
  case round =>
    obtain ⟨k, hk, rfl, rfl⟩ := hrel
    obtain ⟨bd1, bd2⟩ := upL_sm L SM.out k (by rw [HL.out]; exact hk)
    by_cases hlt : k < n
    · obtain ⟨b', off', rfl, hb', hc⟩ := HS.out.at k hlt
      obtain ⟨c0, c1, c2, c3, c4, c5, c6⟩ := hc
      obtain ⟨l1, l2⟩ := SM.out _ (sx_mem L k (by rw [HL.out]; exact hlt))
      go_wp2
      go_round
      case rel => exact ⟨k + 1, by omega, by go_num, by rw [upL_succ L k (by rw [HL.out]; exact hlt)]⟩
      case measure => simp [intOf]; omega
    · obtain rfl : k = n := by omega
      clear bd1 bd2
      go_wp2
      go_ret
      exact ⟨ret_i64 (by unfold totL; rw [HL.out]), (Later.refl _).alloc _⟩
theorem inR_of {x : Int} (h1 : -1000000000 ≤ x) (h2 : x ≤ 1000000000) : InR x := ⟨by omega, by omega⟩
set_option maxRecDepth 100000 in
theorem s_DrawPositionW (B : Nat) (a : Option Addr) (len cap : Nat) (a' : Option Addr) (n cap' : Nat) (L : List Sg) (w : World) (hs : Src w B a len cap) (hl : Sgs w a' n L) (h26 : n ≤ 26) (hsm : ∀ x ∈ L, SmW x) :
    Calls Try.prog 68 #[.pointer (some ⟨B, 0, none⟩), .agg #[.slice a' n cap']] w (Drawn w B a len cap InR) := by
  have HS := Lib.hid hs
  have HL := Lib.hid hl
  have SM := Lib.hid hsm
  obtain ⟨t1, t2⟩ := upL_sm L hsm L.length (Nat.le_refl _)
  have t3 : -273000000 ≤ totL L ∧ totL L ≤ 273000000 := by unfold totL; rw [hl.1] at t1 t2 ⊢; omega
  clear hs hl hsm t1 t2
  have key : ∀ T : Int, 1 ≤ T → T ≤ 273000000 → Hid (max 1 (totL L) = T) → Calls Try.prog 68 #[.pointer (some ⟨B, 0, none⟩), .agg #[.slice a' n cap']] w (Drawn w B a len cap InR) := by
    intro T hT1 hT2 hT
    go_enter Try.func68, Try.ntmps68
    go_wp2_with fail
    have T0 := Lib.hid ((St.begin HS.out).alloc (.cells #[.slice a' n cap'] 26))
    refine (s_Total_sm a' n cap' L _ (HL.out.later ((Later.refl _).alloc _)) h26 SM.out).mono ?_
    rintro e w1 ⟨rfl, hb⟩
    have T1 := Lib.hid (T0.out.later hb)
    clear hb
    have ht : (totL L ≤ 1 ∧ T = 1) ∨ (1 < totL L ∧ T = totL L) := by have := hT.out; omega
    rcases ht with ⟨h1, rfl⟩ | ⟨h1, rfl⟩
    all_goals
      go_wp2_with fail
      refine (s_Next B a len cap _ _ T1.out.src (by omega) (by omega)).mono ?_
      rintro e w2 ⟨c, rfl, x0, x1, x2, src, gr⟩
      have T2 := Lib.hid (T1.out.call src gr)
      clear gr src x1 x2
      by_cases c0 : c = 0
      · subst c0
        go_wp2_with fail
        first
          | (have hlv := sl_new w2 [-1, 0, 0, 1] 2 (by simp) (by intro x hx; simp at hx; unfold InR; omega)
             refine (s_Pick B a len cap ⟨w2.heap.size, 0, none⟩ 4 4 _ _ (T2.out.src.alloc _) hlv (by have := T2.out.src.lt; show w2.heap.size ≠ B; omega) (by omega)).mono ?_)
          | (have hlv := sl_new w2 [-1, 0, totL L - 1, totL L] 2 (by simp) (by intro x hx; simp at hx; unfold InR; omega)
             refine (s_Pick B a len cap ⟨w2.heap.size, 0, none⟩ 4 4 _ _ (T2.out.src.alloc _) hlv (by have := T2.out.src.lt; show w2.heap.size ≠ B; omega) (by omega)).mono ?_)
        rintro e w3 ⟨v, rfl, hrv, src, gr⟩
        have T3 := Lib.hid ((T2.out.alloc _).call src gr)
        have HV : Hid (InR v) := Lib.hid (by simp at hrv; unfold InR; omega)
        clear gr src hrv hlv
        go_wp2_with fail
        go_ret
        exact ⟨v, rfl, HV.out, T3.out.src, T3.out.grown⟩
      · have e0 : (c == 0) = false := by simpa using c0
        clear c0
        go_wp2_with fail
        refine (s_Next B a len cap _ _ T2.out.src (by omega) (by omega)).mono ?_
        rintro e w3 ⟨v, rfl, v0, v1, v2, src, gr⟩
        have T3 := Lib.hid (T2.out.call src gr)
        have HV : Hid (InR v) := Lib.hid (by
          refine inR_of (by omega) ?_
          first | (have h := v2 (by omega); omega) | (have h := v1 (by omega); omega))
        clear gr src v1 v2
        go_wp2_with fail
        go_ret
        exact ⟨v, rfl, HV.out, T3.out.src, T3.out.grown⟩
  exact key (max 1 (totL L)) (by omega) (by omega) (Lib.hid rfl)
theorem s_DrawPosition (B : Nat) (a : Option Addr) (len cap : Nat) (a' : Option Addr) (n cap' : Nat) (L : List Sg) (w : World) (hs : Src w B a len cap) (hl : Sgs w a' n L) (h26 : n ≤ 26) (hsm : ∀ x ∈ L, SmS x) :
    Calls Try.prog 68 #[.pointer (some ⟨B, 0, none⟩), .agg #[.slice a' n cap']] w (Drawn w B a len cap InR) :=
  s_DrawPositionW B a len cap a' n cap' L w hs hl h26 (fun x hx => (hsm x hx).w)
end Go.Proofs.Ytehinlecppbjeaa
