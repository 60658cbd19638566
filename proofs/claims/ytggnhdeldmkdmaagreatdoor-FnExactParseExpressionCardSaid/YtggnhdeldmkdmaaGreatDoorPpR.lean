/- The parser's recursion, of the program. -/
import Derived.Test.YtggnhdeldmkdmaaGreatDoorPpJ
import Derived.Laws.EntriesVeiled
namespace Go.Proofs.YtggnhdeldmkdmaaGreatDoor
open Go.RowKit Go.Shelf
set_option maxHeartbeats 4000000
set_option maxRecDepth 100000
set_option linter.unusedVariables false
set_option linter.unusedSimpArgs false
/-- what a part of the parser leaves -/
def RetI (w : World) (g : Nat) (x : PR (List Trm)) (e : Ending) (w' : World) : Prop :=
  w.grownBy w' (some g) ∧ (match x with | .out => False | .bad => e = Bad | .ok L r => ∃ v, e = .returned v ∧ OwnR w' w.heap.size 47 v L ∧ PSt w' g r)
theorem retI_bad {w w' : World} {g : Nat} {x : PR (List Trm)} (hg : w.grownBy w' (some g)) (hx : x = .bad) : RetI w g x Bad w' := by subst hx; exact ⟨hg, rfl⟩
theorem retI_ok {w w' : World} {g : Nat} {x : PR (List Trm)} {v : Value} {L : List Trm} {r : TT} (hg : w.grownBy w' (some g)) (ho : OwnR w' w.heap.size 47 v L) (hp : PSt w' g r) (hx : x = .ok L r) : RetI w g x (.returned v) w' := by subst hx; exact ⟨hg, v, rfl, ho, hp⟩
theorem OwnR.keptG {w w' : World} {base g : Nat} {T : TypeId} {v : Value} {L : List Trm} (h : OwnR w base T v L) (hg : w.grownBy w' (some g)) (hb : g < base) : OwnR w' base T v L :=
  h.kept hg (fun k e e2 => by have := (h.lt k e).1; have := Option.some.inj e2; omega)
theorem info_trmP : (Tryz.prog.info? 47).map (fun i => (i.zero, i.size, i.bytes)) = some (some (.agg #[.int .i64 0, .string ⟨#[]⟩, .int .i64 0]), 3, 32) := by kernel_rfl
/-- append(out, b...), b a slice of terms -/
theorem appRS {ops : Array Oper} {rest : List Oper} {o : Oper} {act : Act} {Q : Exit → Act → World → Prop} (hgd : o.guard = none) (s x : Operand)
    (ho : o.op = .call { callee := .builtin .append, args := #[s, x], argTypes := #[36, 36] })
    (base : Nat) (W : World) (v : Value) (L M : List Trm) (b2 : Nat) (u : Value) (hown : OwnR W base 47 v L) (hu : OwnR W b2 47 u M) (hM : M ≠ []) (hs : act.eval s = v) (hx : act.eval x = u) (hl : L.length ≤ 100000000) (hm : M.length ≤ 100000000) (hbase : base ≤ W.heap.size)
    (h : ∀ v' w', OwnR w' base 47 v' (L ++ M) → W.grownBy w' v.ownBlock → wpList Tryz.prog ops Q rest (act.put o.dst v') w') : wpList Tryz.prog ops Q (o :: rest) act W := by
  obtain ⟨i0, hi, hz0, hz1, hz2⟩ := info_parts info_trmP
  obtain ⟨a, cap, rfl, hcap, ht, _, _, _⟩ := hu.trs
  have hM1 : 1 ≤ M.length := by cases M with | nil => exact absurd rfl hM | cons a b => simp
  obtain ⟨b, off, rfl, _, _, _⟩ := ht.2.2.1 0 (by omega)
  have hbb : (L.length + M.length) * 32 ≤ 200000000 * 32 := Nat.mul_le_mul (by omega) (Nat.le_refl _)
  refine wpList_append_own _ hgd s x _ ho base 47 i0 (.agg #[.int .i64 0, .string ⟨#[]⟩, .int .i64 0]) 3 32 Tryz.underlying36 hi hz0 hz1 hz2 rfl (by omega) v L.length _ hs hown.1 ⟨b, off, none⟩ M.length cap (rcl M) hx (by rw [rcl_len]) ?_ ?_ (by unfold maxLen; omega) (by omega) hbase ?_
  · intro j u hj
    have hj3 : j < M.length * 3 := by
      rcases Nat.lt_or_ge j (M.length * 3) with h1 | h1
      · exact h1
      · rw [List.getElem?_eq_none (by rw [rcl_len]; exact h1)] at hj; cases hj
    rw [Addr.add_lit]
    rw [rcl_get M j hj3] at hj
    obtain ⟨b', off', e, c0, c1, c2⟩ := ht.2.2.1 (j / 3) (by omega)
    cases e
    rcases (show j % 3 = 0 ∨ j % 3 = 1 ∨ j % 3 = 2 by omega) with e | e | e
    · rw [if_pos e] at hj; rw [← hj, ← c0]; congr 2; omega
    · rw [if_neg (by omega), if_pos e] at hj; rw [← hj, ← c1]; congr 2; omega
    · rw [if_neg (by omega), if_neg (by omega)] at hj; rw [← hj, ← c2]; congr 2; omega
  · intro u hu2
    have : ∀ (M : List Trm) (u : Value), u ∈ rcl M → (∃ x, u = .int .i64 x) ∨ ∃ t, u = .string t := by
      intro M
      induction M with
      | nil => intro u hu; simp [rcl] at hu
      | cons x r ih =>
        intro u hu
        simp [rcl] at hu
        rcases hu with rfl | rfl | rfl | hu
        · exact .inl ⟨_, rfl⟩
        · exact .inr ⟨_, rfl⟩
        · exact .inl ⟨_, rfl⟩
        · exact ih u hu
    rcases this M u hu2 with ⟨x, rfl⟩ | ⟨t, rfl⟩ <;> rfl
  · intro v' w' h1 h2 _
    refine h v' w' ⟨?_, ?_⟩ h2
    · rw [rcl_app, List.length_append]; exact h1
    · intro y hy
      rcases List.mem_append.1 hy with hy | hy
      · exact hown.2 y hy
      · exact hu.2 y hy
end Go.Proofs.YtggnhdeldmkdmaaGreatDoor
