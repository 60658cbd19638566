/- A region that draws its order and stores into what it has loaded: what an early operation yields need hold only till an operation D, which waits for it, is done. -/
import Derived.OrdersHeld
import Derived.Deep.RegionHeld
namespace Go.Proofs.Ytnmlkigpiaekjaa
section
variable {P : Program} {ops : Array Oper} {Q : Exit → Act → World → Prop} {md : Region.Mode} {S : World → Prop} {D : Nat}
/-- whatever order is picked from here on, and S holds behind every operation as long as D is not done -/
def wpTill (P : Program) (md : Region.Mode) (ops : Array Oper) (Q : Exit → Act → World → Prop) (S : World → Prop) (D : Nat) : Nat → Array Bool → Act → World → Prop
  | 0, done, a, w => Region.ready md ops done = [] ∧ Q .normal a w
  | n + 1, done, a, w => (Region.ready md ops done = [] → Q .normal a w) ∧
      ∀ i ∈ Region.ready md ops done, wpOp P ops Q i (fun b v => ((done.setIfInBounds i true).getD D true = false → S v) ∧ wpTill P md ops Q S D n (done.setIfInBounds i true) b v) a w
theorem wpTill_any : ∀ (n : Nat) (done : Array Bool) (a : Act) (w : World), wpTill P md ops Q S D n done a w → wpAny P md ops Q n done a w
  | 0, _, _, _, h => h
  | n + 1, _, _, _, h => ⟨h.1, fun i hi => wpOp_mono (fun b v k => wpTill_any n _ b v k.2) (h.2 i hi)⟩
theorem wpTill_start {id : Nat} {a : Act} {w : World} (D : Nat) (S : World → Prop) (hm : P.follows .mixedOrders = true) (h : wpTill P .any ops Q S D ops.size (Array.replicate ops.size false) a w.drew) : (Code.region id ops true).wp P Q a w :=
  wp_region_any hm (wpTill_any _ _ _ _ h)
theorem wpTill_first {i : Nat} {oi oD : Oper} {v : Value} (hi : ops[i]? = some oi) (hsel : ∀ (j : Nat) (o : Oper) cs b, ops[j]? = some o → o.op ≠ .select cs b)
    (hQ : ∀ c a w, Q (.panic c) (a.put oi.dst v) w → Q (.panic c) a w) (hoD : ops[D]? = some oD) (hDi : ∃ e ∈ oD.after, Region.binds md e = true ∧ e.on = i) (n : Nat) : ∀ (done : Array Bool) (a : Act) (w : World),
      (∀ j oj, ops[j]? = some oj → j ≠ i → done.getD j true = false → (∀ e ∈ oj.after, Region.binds md e = true → e.on ≠ i) → oi.apart ops oj = true) →
      i ∈ Region.ready md ops done → done.getD D true = false → YieldsIf P ops S oi v a → S w →
      wpTill P md ops Q S D n (done.setIfInBounds i true) (a.put oi.dst v) w → wpTill P md ops Q S D (n + 1) done a w := by
  induction n with
  | zero =>
    intro done a w _ hr hd hy hS H
    refine ⟨fun h => absurd hr (by rw [h]; exact List.not_mem_nil), fun j hj => ?_⟩
    by_cases e : j = i
    · subst e; exact hy.wpOp hi hS ⟨fun _ => hS, H⟩
    · exact absurd (ready_mono hj e) (by rw [H.1]; exact List.not_mem_nil)
  | succ n ih =>
    intro done a w hfree hr hd hy hS H
    refine ⟨fun h => absurd hr (by rw [h]; exact List.not_mem_nil), fun j hj => ?_⟩
    by_cases e : j = i
    · subst e; exact hy.wpOp hi hS ⟨fun _ => hS, H⟩
    · have h1 := H.2 j (ready_mono hj e)
      obtain ⟨hjun, oj, hoj, hall⟩ := mem_ready.1 hj
      have hnot : ∀ x ∈ oj.after, Region.binds md x = true → x.on ≠ i := fun x hx hb heq => by
        have t1 := hall x hx hb
        have t0 := (mem_ready.1 hr).1
        rw [heq] at t1
        rcases Nat.lt_or_ge i done.size with k | k
        · simp [k] at t0 t1; rw [t0] at t1; cases t1
        · simp [Array.getElem?_eq_none k] at t1
      have hjD : j ≠ D := fun h => by
        subst h
        rw [hoD] at hoj
        cases hoj
        obtain ⟨x, hx, hb, hxi⟩ := hDi
        exact hnot x hx hb hxi
      have h2 := wpOp_putIf hoj (hfree j oj hoj e hjun hnot) (fun cs b => hsel i oi cs b hi) (fun cs b => hsel j oj cs b hoj) hQ hy h1
      have hri : i ∈ Region.ready md ops (done.setIfInBounds j true) := ready_mono hr (Ne.symm e)
      have hiD : i ≠ D := fun h => by
        subst h
        obtain ⟨x, hx, hb, hxi⟩ := hDi
        obtain ⟨_, o', ho', hall'⟩ := mem_ready.1 hr
        rw [hoD] at ho'
        cases ho'
        have t1 := hall' x hx hb
        have t0 := (mem_ready.1 hr).1
        rw [hxi] at t1
        rcases Nat.lt_or_ge i done.size with k | k
        · simp [k] at t0 t1; rw [t0] at t1; cases t1
        · simp [Array.getElem?_eq_none k] at t1
      have hdj : (done.setIfInBounds j true).getD D true = false := by rw [getD_set_ne true hjD]; exact hd
      have hdij : ((done.setIfInBounds i true).setIfInBounds j true).getD D true = false := by rw [getD_set_ne true hjD, getD_set_ne true hiD]; exact hd
      have hfree' : ∀ k ok, ops[k]? = some ok → k ≠ i → (done.setIfInBounds j true).getD k true = false →
          (∀ x ∈ ok.after, Region.binds md x = true → x.on ≠ i) → oi.apart ops ok = true := fun k ok hk hki hun hno => by
        refine hfree k ok hk hki ?_ hno
        by_cases hjk : j = k
        · subst hjk; exact hjun
        · rw [getD_set_ne true hjk] at hun; exact hun
      refine wpOp_mono (fun b u h3 => ?_) h2
      have hSu := h3.2.1 hdij
      refine ⟨fun _ => hSu, ih (done.setIfInBounds j true) b u hfree' hri hdj h3.1 hSu ?_⟩
      rw [Array.setIfInBounds_comm _ _ e]
      exact h3.2.2
/-- number i is taken first -/
theorem wpTill_take {i : Nat} {oi oD : Oper} {v : Value} {n : Nat} {done : Array Bool} {a : Act} {w : World} (hi : ops[i]? = some oi) (hoD : ops[D]? = some oD) (hDi : (oD.after.any fun e => Region.binds md e && e.on == i) = true)
    (hs : Region.noSelect ops = true) (hf : Region.free md ops done i = true) (hr : (Region.ready md ops done).contains i = true) (hd : done.getD D true = false)
    (hQ : ∀ c a w, Q (.panic c) (a.put oi.dst v) w → Q (.panic c) a w) (hy : YieldsIf P ops S oi v a) (hS : S w)
    (h : wpTill P md ops Q S D n (done.setIfInBounds i true) (a.put oi.dst v) w) : wpTill P md ops Q S D (n + 1) done a w :=
  wpTill_first hi (Region.noSelect_spec hs) hQ hoD (by
    rw [Array.any_eq_true'] at hDi
    obtain ⟨e, he, h1⟩ := hDi
    rw [Bool.and_eq_true, beq_iff_eq] at h1
    exact ⟨e, he, h1⟩) n done a w (Region.free_spec hi hf) (by simpa using hr) hd hy hS h
/-- number i is the only one that may come up -/
theorem wpTill_one {i : Nat} {o : Oper} {n : Nat} {done : Array Bool} {a : Act} {w : World} (hr : Region.ready md ops done = [i]) (ho : ops[i]? = some o) (hw : Region.wanted o (yielded ops a.tmps) = true)
    (h : ∀ K : Act → World → Prop, (∀ b v, ((done.setIfInBounds i true).getD D true = false → S v) → wpTill P md ops Q S D n (done.setIfInBounds i true) b v → K b v) → Oper.wp P o a w K Q) : wpTill P md ops Q S D (n + 1) done a w := by
  refine ⟨fun h0 => absurd (hr.symm.trans h0) (by simp), fun j hj => ?_⟩
  rw [hr, List.mem_singleton] at hj
  subst hj
  unfold wpOp
  simp only [ho, hw, if_true]
  exact .inl (h _ fun b v k1 k2 => ⟨k1, k2⟩)
theorem wpTill_end {n : Nat} {done : Array Bool} {a : Act} {w : World} (hr : Region.ready md ops done = []) (h : Q .normal a w) : wpTill P md ops Q S D n done a w := by
  cases n with
  | zero => exact ⟨hr, h⟩
  | succ n => exact ⟨fun _ => h, by rw [hr]; intro i hi; cases hi⟩
end
end Go.Proofs.Ytnmlkigpiaekjaa
