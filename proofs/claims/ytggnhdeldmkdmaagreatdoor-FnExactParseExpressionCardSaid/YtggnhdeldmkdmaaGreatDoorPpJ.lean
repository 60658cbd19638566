/- The parser's steps, of the program: numbers and keywords. -/
import Derived.Test.YtggnhdeldmkdmaaGreatDoorPpI
import Derived.Deep.MidRow
namespace Go.Proofs.YtggnhdeldmkdmaaGreatDoor
open Go.RowKit Go.Shelf
set_option maxHeartbeats 4000000
set_option maxRecDepth 100000
set_option linter.unusedVariables false
set_option linter.unusedSimpArgs false
theorem parse_none (c : UInt8) (r : List UInt8) (h1 : c ≠ 43) (h2 : c ≠ 45) (h3 : ¬ (48 ≤ c.toNat ∧ c.toNat ≤ 57)) : rcB (c :: r) = false := by
  unfold rcB
  have hq : ∀ v, Lib.parseIntB 32 (c :: r) ≠ .ok v := by
    intro v hv
    unfold Lib.parseIntB at hv
    simp only [] at hv
    have e1 : c.toNat ≠ 43 := fun e => h1 (UInt8.toNat_inj.1 e)
    have e2 : c.toNat ≠ 45 := fun e => h2 (UInt8.toNat_inj.1 e)
    have hu : Lib.parseUintB 32 (c :: r) ≠ .ok 0 ∧ ∀ u, Lib.parseUintB 32 (c :: r) ≠ .ok u := by
      have : ∀ u, Lib.parseUintB 32 (c :: r) ≠ .ok u := by
        intro u hu
        unfold Lib.parseUintB at hu
        rw [if_neg (by simp)] at hu
        unfold Lib.parseUintM at hu
        rw [if_neg h3] at hu
        cases hu
      exact ⟨this 0, this⟩
    rw [if_neg (show ¬ (c.toNat = 43 ∨ c.toNat = 45) by omega)] at hv
    split at hv
    · cases hv
    · cases hv
    · rename_i u hu2
      exact hu.2 _ hu2
  generalize Lib.parseIntB 32 (c :: r) = q at hq
  cases q with
  | ok v => exact absurd rfl (hq v)
  | _ => rfl
/-- a valid token is read as a number exactly if it is one -/
theorem rcB_tok {x : List UInt8} (h : kdB x ≠ 0) : rcB x = numB x ∧ (numB x = true → rcV x = (vl 0 x : Nat)) := by
  cases hn : numB x
  · refine ⟨?_, fun e => by cases e⟩
    rcases kd_cases h with h1 | h1 | h1
    · obtain ⟨b, t, rfl, hb⟩ := wrd_head h1
      simp [letB] at hb
      exact parse_none b t (fun e => by subst e; simp at hb) (fun e => by subst e; simp at hb) (by omega)
    · rw [hn] at h1; cases h1
    · simp [sgnB] at h1
      rcases h1 with (((h1 | h1) | h1) | h1) | h1 <;> subst h1 <;> exact parse_none _ _ (by decide) (by decide) (by decide)
  · obtain ⟨m, hm, rfl⟩ := (numB_iff x).1 hn
    have h1 := parse32_dec m hm
    have h2 := (dec_read (m + 1) m (by omega)).1
    refine ⟨by unfold rcB; rw [h1], fun _ => ?_⟩
    unfold rcV; rw [h1, h2]
theorem var_grown {w w' : World} {n : String} {i g : Nat} {cs : Array Value} (hi : Tryz.prog.globalNamed n = some i) (h : w.var? Tryz.prog n = some cs) (hg : w.grownBy w' (some g)) (hl : i < g) : w'.var? Tryz.prog n = some cs := by
  unfold World.var? at h ⊢
  rw [hi] at h ⊢
  simp only [Option.bind_some] at h ⊢
  have hlt : i < w.heap.size := by
    cases hh : w.heap[i]? with
    | none => rw [hh] at h; cases h
    | some o => exact (Array.getElem?_eq_some_iff.1 hh).1
  rw [hg.block i hlt (fun e => by cases e; omega)]; exact h
/-- the variables that the parser looks at; all of them older than block g -/
structure Env (w : World) (g : Nat) : Prop where
  ops : Ops w
  errs : Errs w
  o1 : 0 < g
  o2 : 3 < g
  o3 : 4 < g
theorem Env.grown {w w' : World} {g : Nat} (h : Env w g) (hg : w.grownBy w' (some g)) : Env w' g := by
  refine ⟨h.ops.grown hg (fun e => by cases e; exact Nat.lt_irrefl _ h.o1), ?_, h.o1, h.o2, h.o3⟩
  obtain ⟨⟨t1, p1, e1⟩, t2, p2, e2⟩ := h.errs
  exact ⟨⟨t1, p1, var_grown (by kernel_rfl) e1 hg h.o2⟩, t2, p2, var_grown (by kernel_rfl) e2 hg h.o3⟩
theorem Env.grownR {w w' : World} {g : Nat} {r : Option Nat} (h : Env w g) (hg : w.grownBy w' r) (hr : ∀ k, r = some k → g ≤ k) : Env w' g := by
  cases r with
  | none =>
    have hg2 : w.grownBy w' (some g) := ⟨hg.os, hg.tape, hg.output, hg.size, fun i hi _ => hg.block i hi (fun e => by cases e)⟩
    exact h.grown hg2
  | some k =>
    have hk := hr k rfl
    refine ⟨h.ops.grown hg (fun e => by have h1 := h.o1; have h2 := Option.some.inj e; omega), ?_, h.o1, h.o2, h.o3⟩
    obtain ⟨⟨t1, p1, e1⟩, t2, p2, e2⟩ := h.errs
    exact ⟨⟨t1, p1, var_grown (by kernel_rfl) e1 hg (Nat.lt_of_lt_of_le h.o2 hk)⟩, t2, p2, var_grown (by kernel_rfl) e2 hg (Nat.lt_of_lt_of_le h.o3 hk)⟩
theorem Env.later {w w' : World} {g : Nat} (h : Env w g) (hb : Later w w') : Env w' g := ⟨h.ops.later hb, h.errs.later hb, h.o1, h.o2, h.o3⟩
theorem i_number_yes (g : Nat) (x : List UInt8) (r : TT) (w : World) (h : PSt w g (x :: r)) (hE : Env w g) (hn : numB x = true) : Calls Tryz.prog 163 #[.pointer (some ⟨g, 0, none⟩)] w fun e w' => e = .returned (.int .i64 (vl 0 x : Nat)) ∧ PSt w' g r ∧ w.grownBy w' (some g) := by
  have IT := Lib.hid (i_take_cons g x r w h)
  obtain ⟨c1, c2⟩ := rcB_tok (h.valid x (by simp))
  have hl := (kd_len (h.valid x (by simp))).2
  have RC := Lib.hid (fun W he => i_readCount (tx x) W (by rw [tx_size]; omega) he)
  rw [tx_data, c1, hn, c2 hn] at RC
  have HE := Lib.hid hE
  obtain ⟨m, hm⟩ : ∃ m : Int, m = (vl 0 x : Nat) := ⟨_, rfl⟩
  rw [← hm] at RC ⊢
  obtain ⟨s, hs⟩ : ∃ s, s = tx x := ⟨_, rfl⟩
  rw [← hs] at IT RC
  clear h hE hs hm c1 c2 hl
  go_enter Tryz.func163, Tryz.ntmps163
  go_wp2_with fail
  refine IT.out.mono ?_
  rintro e w1 ⟨rfl, hp, hg⟩
  have HP := Lib.hid hp; have HG := Lib.hid hg
  clear hp hg
  go_wp2_with fail
  refine (RC.out _ (HE.out.grown HG.out).errs).mono ?_
  rintro e w2 ⟨rfl, hb⟩
  have H2 := Lib.hid hb
  clear hb
  go_wp2_with fail
  go_ret
  exact ⟨rfl, HP.out.later H2.out, grP_later HG.out H2.out⟩
theorem i_number_no (g : Nat) (T : TT) (w : World) (h : PSt w g T) (hE : Env w g) (hn : nbr T = .bad) : Calls Tryz.prog 163 #[.pointer (some ⟨g, 0, none⟩)] w fun e w' => e = Bad ∧ w.grownBy w' (some g) := by
  cases T with
  | nil =>
    have IT := Lib.hid (i_take_nil g w h)
    clear h
    go_enter Tryz.func163, Tryz.ntmps163
    go_wp2_with fail
    refine IT.out.mono ?_
    rintro e w1 ⟨rfl, rfl⟩
    unfold Bad
    go_wp2_with fail
    all_goals exact ⟨rfl, rfl, grP_refl _ _⟩
  | cons x r =>
    have IT := Lib.hid (i_take_cons g x r w h)
    have hnx : numB x = false := by
      unfold nbr at hn
      cases hx : numB x with
      | false => rfl
      | true => simp [hx] at hn
    obtain ⟨c1, c2⟩ := rcB_tok (h.valid x (by simp))
    have hl := (kd_len (h.valid x (by simp))).2
    have RC := Lib.hid (fun W he => i_readCount (tx x) W (by rw [tx_size]; omega) he)
    rw [tx_data, c1, hnx] at RC
    have HE := Lib.hid hE
    generalize rcV x = m at RC
    obtain ⟨s, hs⟩ : ∃ s, s = tx x := ⟨_, rfl⟩
    rw [← hs] at IT RC
    clear h hE hs c1 c2 hl hn hnx
    go_enter Tryz.func163, Tryz.ntmps163
    go_wp2_with fail
    refine IT.out.mono ?_
    rintro e w1 ⟨rfl, hp, hg⟩
    have HG := Lib.hid hg
    clear hp hg
    go_wp2_with fail
    refine (RC.out _ (HE.out.grown HG.out).errs).mono ?_
    rintro e w2 ⟨rfl, hb⟩
    have H2 := Lib.hid hb
    clear hb
    go_wp2_with fail
    all_goals exact ⟨rfl, rfl, grP_later HG.out H2.out⟩
/-- the kind of the terms with a keyword, or 0 -/
def kbw (x : List UInt8) : Nat := if x = kTrue then 2 else if x = kFalse then 3 else if x = kNot then 4 else if x = kAnd then 5 else if x = kOr then 6 else bkK x
theorem kbw_at : ∀ k : Fin 13, 2 ≤ k.val → kbw (opW k.val) = k.val := by decide +kernel
theorem kbw_none (x : List UInt8) (h : ∀ j, j < 13 → opW j ≠ x) : kbw x = 0 := by
  unfold kbw
  rw [if_neg (fun e => h 2 (by omega) e.symm), if_neg (fun e => h 3 (by omega) e.symm), if_neg (fun e => h 4 (by omega) e.symm), if_neg (fun e => h 5 (by omega) e.symm), if_neg (fun e => h 6 (by omega) e.symm)]
  unfold bkK
  rw [if_neg]
  intro hc
  have hm : x ∈ bks := by simpa using hc
  simp [bks] at hm
  rcases hm with e | e | e | e | e | e
  · exact h 7 (by omega) e.symm
  · exact h 8 (by omega) e.symm
  · exact h 9 (by omega) e.symm
  · exact h 10 (by omega) e.symm
  · exact h 11 (by omega) e.symm
  · exact h 12 (by omega) e.symm
/-- the table's cells -/
def opC : List Value := opL.flatMap fun x => [.string (tx x.1), .int .i64 x.2.1, .bool x.2.2]
theorem opC_get (j : Nat) (h : j < 39) : opC[j]? = some (if j % 3 = 0 then .string (tx (opW (j / 3))) else if j % 3 = 1 then .int .i64 (opV (j / 3)) else .bool (opN (j / 3))) := by
  have : ∀ q : Nat, q < 13 → opC[q * 3]? = some (.string (tx (opW q))) ∧ opC[q * 3 + 1]? = some (.int .i64 (opV q)) ∧ opC[q * 3 + 2]? = some (.bool (opN q)) := by
    intro q hq
    rcases (show q = 0 ∨ q = 1 ∨ q = 2 ∨ q = 3 ∨ q = 4 ∨ q = 5 ∨ q = 6 ∨ q = 7 ∨ q = 8 ∨ q = 9 ∨ q = 10 ∨ q = 11 ∨ q = 12 by omega) with e | e | e | e | e | e | e | e | e | e | e | e | e <;> subst e <;> exact ⟨rfl, rfl, rfl⟩
  obtain ⟨h0, h1, h2⟩ := this (j / 3) (by omega)
  rcases (show j % 3 = 0 ∨ j % 3 = 1 ∨ j % 3 = 2 by omega) with e | e | e
  · rw [if_pos e, ← h0]; congr 1; omega
  · rw [if_neg (by omega), if_pos e, ← h1]; congr 1; omega
  · rw [if_neg (by omega), if_neg (by omega), ← h2]; congr 1; omega
theorem opC_len : opC.length = 39 := rfl
theorem ops_range {w : World} (h : Ops w) : w.rangeAt 0 0 opC := fun j v hv => by
  have hj : j < 39 := by
    rcases Nat.lt_or_ge j 39 with h1 | h1
    · exact h1
    · rw [List.getElem?_eq_none (by rw [opC_len]; exact h1)] at hv; cases hv
  rw [opC_get j hj] at hv
  obtain ⟨h0, h1, h2⟩ := h (j / 3) (by omega)
  rw [Nat.zero_add, ← hv]
  rcases (show j % 3 = 0 ∨ j % 3 = 1 ∨ j % 3 = 2 by omega) with e | e | e
  · rw [if_pos e, ← h0]; congr 2; omega
  · rw [if_neg (by omega), if_pos e, ← h1]; congr 2; omega
  · rw [if_neg (by omega), if_neg (by omega), ← h2]; congr 2; omega
theorem op_index (k : Nat) (hk : k < 13) (W : World) : (Instr.index 102 (.agg opC.toArray) (.int .i64 k)).run Tryz.prog W = .ok (.agg #[.string (tx (opW k)), .int .i64 (opV k), .bool (opN k)]) W := by
  rcases (show k = 0 ∨ k = 1 ∨ k = 2 ∨ k = 3 ∨ k = 4 ∨ k = 5 ∨ k = 6 ∨ k = 7 ∨ k = 8 ∨ k = 9 ∨ k = 10 ∨ k = 11 ∨ k = 12 by omega) with e | e | e | e | e | e | e | e | e | e | e | e | e <;> subst e <;> kernel_rfl
theorem i_kindByWord (x : List UInt8) (w : World) (hx : x ≠ []) (ho : Ops w) : Calls Tryz.prog 155 #[.string (tx x)] w fun e w' => e = .returned (.int .i64 (kbw x : Nat)) ∧ Later w w' := by
  have HO := Lib.hid ho
  have RG := Lib.hid (ops_range ho)
  have EQ : Hid (∀ j, ((tx (opW j)).toList == (tx x).toList) = decide (opW j = x)) := Lib.hid (fun j => eq_tx _ _)
  obtain ⟨s, hs⟩ : ∃ s, s = tx x := ⟨_, rfl⟩
  rw [← hs] at EQ ⊢
  have IX := Lib.hid op_index
  have CL := Lib.hid opC_len
  obtain ⟨A, hA⟩ : ∃ A, A = opC := ⟨_, rfl⟩
  rw [← hA] at RG IX CL
  clear hs ho hA
  go_enter Tryz.func155, Tryz.ntmps155
  go_wp2_with (refine wpList_load_mid rfl _ _ rfl 0 0 (by rfl) A _ RG.out Tryz.underlying102 rfl (by rw [CL.out]; kernel_rfl) ?_)
  go_loopw [6] (fun i wr => ∃ k : Nat, k ≤ 13 ∧ i = .int .i64 k ∧ Later w wr ∧ Hid (∀ j, j < k → opW j ≠ x)) (fun i _ => 13 - (intOf i).toNat)
  case atStart => exact ⟨0, by omega, rfl, Later.refl _, Lib.hid (by intro j h; omega)⟩
  case round =>
    obtain ⟨k, hk, rfl, hb, HI⟩ := hrel
    have B3 := Lib.hid hb
    clear hb
    by_cases hlt : k < 13
    · have hix := IX.out k hlt
      have e1 := EQ.out k
      obtain ⟨y, hy⟩ : ∃ y, y = tx (opW k) := ⟨_, rfl⟩
      obtain ⟨v, hv⟩ : ∃ v, v = opV k := ⟨_, rfl⟩
      obtain ⟨b, hb⟩ : ∃ b, b = opN k := ⟨_, rfl⟩
      rw [← hy, ← hv, ← hb] at hix
      rw [← hy] at e1
      clear hy hv hb
      by_cases hq : opW k = x
      · have HK : Hid (kbw x = k) := Lib.hid (by
          have h2 : 2 ≤ k := by
            rcases (show k = 0 ∨ k = 1 ∨ 2 ≤ k by omega) with e | e | e
            · subst e; exact absurd hq.symm hx
            · subst e; exact absurd hq.symm hx
            · exact e
          rw [← hq]; exact kbw_at ⟨k, hlt⟩ h2)
        rw [decide_eq_true hq] at e1
        clear hq
        go_wp2_with fail
        go_ret
        exact ⟨by rw [HK.out]; rfl, (by repeat (first | (with_reducible exact Hid.out (by assumption)) | (with_reducible refine Later.setCell ?_ (by simp; omega) _) | (with_reducible refine Later.alloc ?_ _) | (with_reducible refine Later.drewN ?_ _) | (with_reducible refine Later.drew ?_)))⟩
      · have HQ := Lib.hid hq
        rw [decide_eq_false hq] at e1
        clear hq
        go_wp2_with fail
        go_roundw
        case rel =>
          refine ⟨k + 1, by omega, by go_num, (by repeat (first | (with_reducible exact Later.refl _) | (with_reducible exact Hid.out (by assumption)) | (with_reducible refine Later.alloc ?_ _) | (with_reducible refine Later.setCell ?_ (by simp; omega) _) | (with_reducible refine Later.setCell ?_ (by simp) _) | (with_reducible refine Later.drewN ?_ _) | (with_reducible refine Later.drew ?_) | (with_reducible refine Later.trans ?_ (Hid.out (by assumption))))), Lib.hid ?_⟩
          intro j hj
          rcases Nat.lt_or_ge j k with h1 | h1
          · exact HI.out j h1
          · obtain rfl : j = k := by omega
            exact HQ.out
        case measure => simp [intOf]; omega
    · obtain rfl : k = 13 := by omega
      have HN := Lib.hid (kbw_none x HI.out)
      go_wp2_with fail
      go_ret
      exact ⟨by rw [HN.out]; rfl, B3.out⟩
end Go.Proofs.YtggnhdeldmkdmaaGreatDoor
