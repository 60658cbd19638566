/- FnExactPermittedMoves, as the program stands at the commit: for every input the law returns true and leaves its arguments as they were. No condition. -/
import Derived.Test.YtdaihpkjnigjgaaRows
import Derived.Test.YtdaihpkjnigjgaaIkE
import Derived.Test.YtdaihpkjnigjgaaIkO
import Derived.Test.YtdaihpkjnigjgaaOver
import Derived.Test.YtdaihpkjnigjgaaTfO
import Derived.WalkKit
import Derived.ProofKit
import Derived.OpenShut
import Derived.ShutString
import Derived.ChangeOld
import Derived.Below
import Derived.Lib.SmallJoins
namespace Go.Proofs.Ytdaihpkjnigjgaa.fnExactPermittedMoves
open Go.ChangeShapes Go.WideShapes Go.ChangeAt Go.RowKit
open Go.ChangeMaps (open_string shut_string)
set_option linter.unusedVariables false
theorem own : ownKnob Try.prog.godebug = none := by kernel_rfl
theorem laidOut : laidOutB Try.prog = true := by kernel_rfl

theorem walk (B0 : Int) (A0 : Option Addr) (len0 cap0 : Nat) (L0 : List Int) (A1 : Option Addr) (m1 q1 : Nat) (L1 : List Int) (B1 : Option Addr) (n1 r1 : Nat) (M1 : List Int) (w : World) (r0_ : InR B0) (c0 : len0 ≤ cap0) (s0 : Sl w A0 len0 L0) (c1 : m1 ≤ q1) (s1 : Sl w A1 m1 L1) (c1' : n1 ≤ r1) (s1' : Sl w B1 n1 M1) :
    Calls Try.prog 21 #[.agg #[.int .i64 B0, .slice A0 len0 cap0], .agg #[.slice A1 m1 q1, .slice B1 n1 r1]] w fun e w' => e = .returned (.bool true) ∧ Below w.heap.size w w' := by
  first | exact walk_FnExactPermittedMoves B0 A0 len0 cap0 L0 A1 m1 q1 L1 B1 n1 r1 M1 w r0_ c0 s0 c1 s1 c1' s1' | exact walk_FnExactPermittedMoves B0 A0 len0 cap0 L0 A1 m1 q1 L1 B1 n1 r1 M1 w
set_option maxRecDepth 100000 in
theorem lifted (os : Os) (started : os.Started) (H : Type) (enc : TypeId × Value → H) :
    ReturnsInHanded {} Try.checked os 21 .any (Rows.fnExactPermittedMovesSpec.pre6 enc Try.prog Try.f21 Rows.fnExactPermittedMovesRow.domain false) (Rows.fnExactPermittedMovesSpec.post enc Try.prog Try.f21 false true false false) := by
  refine returnsInHanded_of_change (C := Try.checked) own started (by kernel_rfl) Try.func21
    (ChangeSpec.witness6 (enc := enc) (C := Try.checked) false ⟨#[], #[.agg #[.int .i64 0, .slice none 0 0], .agg #[.slice none 0 0, .slice none 0 0]], []⟩ 8 (by kernel_rfl) (by kernel_rfl) (by kernel_rfl) (by kernel_rfl)) ?_
  intro W base args ds gs before hval0 hW hcnd _
  have hval : ∀ (j : Nat) t v, Try.f21.params[j]? = some t → args[j]? = some v → Value.okWide Try.prog W .any base t v := hval0
  have hW' := hW
  obtain ⟨p, q, hA0, hV, rfl, hfz, hnd⟩ := hW
  have hA : DataW.TrodAll enc Try.prog W 0 (fun _ => true) true Try.f21.params.toList args.toList ds p := hA0
  rw [Try.params21] at hA hval
  obtain ⟨v0, vs0, d0, ds0, p0, q0, hargs, rfl, rfl, h0, r0⟩ := trodAll_cons hA
  obtain ⟨v1, vs1, d1, ds1, p1, q1, rfl, rfl, rfl, h1, r1⟩ := trodAll_cons r0
  obtain ⟨rfl, rfl, rfl⟩ := trodAll_nil r1
  obtain rfl : args = #[v0, v1] := by cases args; simp_all
  obtain ⟨rfl, rfl⟩ := trodVars_none hV
  have k0 := h0
  have lt0 : ∀ x ∈ p0, x.block < W.heap.size := by obtain ⟨m, hm⟩ := k0; exact DataW.trod_lt m _ _ _ hm
  obtain ⟨B0, A0, len0, cap0, L0, rfl, r0_, c0, s0⟩ := open_traffic (fun _ => rfl) (hval 0 66 v0 rfl rfl) h0
  have k1 := h1
  have lt1 : ∀ x ∈ p1, x.block < W.heap.size := by obtain ⟨m, hm⟩ := k1; exact DataW.trod_lt m _ _ _ hm
  obtain ⟨A1, m1, q1, L1, B1, n1, r1, M1, rfl, c1, s1, c1', s1'⟩ := open_report (fun _ => rfl) (hval 1 83 v1 rfl rfl) h1
  clear hA0 hval0
  refine (walk B0 A0 len0 cap0 L0 A1 m1 q1 L1 B1 n1 r1 M1 W r0_ c0 s0 c1 s1 c1' s1').mono fun e W' ⟨he, bel⟩ => ?_
  subst he
  exact ⟨_, rfl, _, _, _, [], _, [], hW', trodAll_mk1 (shut_bool Try.underlying4 _), (trodAll_cons_mk (Below.trod laidOut (by kernel_rfl) (of_decide_eq_true (by kernel_rfl)) k0 bel lt0) (trodAll_cons_mk (Below.trod laidOut (by kernel_rfl) (of_decide_eq_true (by kernel_rfl)) k1 bel lt1) trodAll_mk0)), rfl, bel.frame _, fun h => by cases h⟩
theorem over : Rows.fnExactPermittedMovesRow.holds Try.pinned (OpenSpec.ofChange Rows.fnExactPermittedMovesSpec) :=
  OpenClaim.holds_of_wide 21 Try.f21 rfl rfl rfl rfl rfl rfl rfl ⟨rfl, rfl, rfl, rfl, rfl⟩ rfl rfl rfl rfl rfl (by kernel_rfl) Try.func21 (show joinedFacts Try.prog 21 Try.f21 Rows.fnExactPermittedMovesSpec Rows.fnExactPermittedMovesRow = true by unfold joinedFacts; rw [ov_may, ov_lift, ov_make]; kernel_rfl)
    (of_decide_eq_true (by kernel_rfl)) (by unfold Func.isWrapper; first | (rw [if_pos (by decide +kernel)]; kernel_rfl) | (rw [if_neg (by decide +kernel)]; exact ⟨rfl, rfl⟩))
    (fun os started H enc _ => lifted os started H enc)
/-- the statement -/
theorem proved : Rows.FnExactPermittedMovesSaid := over
end Go.Proofs.Ytdaihpkjnigjgaa.fnExactPermittedMoves
