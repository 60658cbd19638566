/- Expressions of a text, of the program: the parser entered, and its panic recovered. -/
import Derived.Test.YtggnhdeldmkdmaaGreatDoorPpU
import Derived.Recover
import Derived.Defers
namespace Go.Proofs.YtggnhdeldmkdmaaGreatDoor
open Go.RowKit Go.Shelf
set_option maxHeartbeats 4000000
set_option maxRecDepth 100000
set_option linter.unusedVariables false
set_option linter.unusedSimpArgs false
theorem rdF_kd : ∀ (f : Nat) (s : List UInt8) (p : Nat), ∀ x ∈ (rdF f s p).1, kdB x.2 ≠ 0
  | 0, s, p, x, hx => by simp [rdF] at hx
  | f + 1, s, p, x, hx => by
    cases s with
    | nil => simp [rdF] at hx
    | cons b t =>
      simp only [rdF] at hx
      split at hx
      · exact rdF_kd f _ _ x hx
      · split at hx
        · exact rdF_kd f _ _ x hx
        · split at hx
          · simp at hx
          · rename_i hk
            simp at hx
            rcases hx with rfl | hx
            · exact hk
            · exact rdF_kd f _ _ x hx
/-- the texts of the tokens of a text -/
def tkT (l : List UInt8) : TT := (rd l 0).1.map (·.2)
theorem tkT_kd (l : List UInt8) : ∀ x ∈ tkT l, kdB x ≠ 0 := by
  intro x hx
  obtain ⟨y, hy, rfl⟩ := List.mem_map.1 hx
  exact rdF_kd _ _ _ y hy
theorem tkI_tx (L : List (Nat × List UInt8)) : (tkI L).map (·.2) = L.map (·.2) := by
  unfold tkI; rw [List.map_map]; rfl
/-- what the parser makes of a text's tokens as an expression, with enough steps -/
def pxR (l : List UInt8) : PR (List Trm) := prs (4 * (tkT l).length + 3) (.chain true) (tkT l)
theorem pxR_in (l : List UInt8) : pxR l ≠ .out := prs_in _ _ _ trivial (Nat.le_refl _)
/-- the whole text is an expression: its terms; else none -/
def pxL (l : List UInt8) : List Trm := if rtE l = 0 then (match pxR l with | .ok a [] => a | _ => []) else []
def pxE (l : List UInt8) : Int := if rtE l = 0 then (match pxR l with | .ok _ [] => 0 | _ => 6) else rtE l
theorem catch_pan (C : Nat) (x : Int) (w : World) (hc : w.cell? ⟨C, 0, none⟩ = some (.int .i64 x)) (hz : w.frozen? ⟨C, 0, none⟩ = false) :
    CallsD Tryz.prog 111 #[.pointer (some ⟨C, 0, none⟩)] (.panicking [{ v := .iface 3 (.int .i64 6), recovered := false }]) w fun e u' w' =>
      e = .returned (.tuple #[]) ∧ u' = .panicking [{ v := .iface 3 (.int .i64 6), recovered := true }] ∧ w' = w.setCell ⟨C, 0, none⟩ (.int .i64 6) := by
  refine callsD_of_wpS Tryz.func111 rfl fun c₀ cs hu => ?_
  apply wpS_seq
  apply wpS_region
  simp [wpOpsS, go_sem, recoverD, hu, Tryz.ntmps111, Exit.thenS]
  refine wpS_cond (t := true) (by simp [Act.eval, Array.replicate]) ?_
  simp only [if_true]
  apply wpS_region
  simp [wpOpsS, go_sem, hc, hz, bodyPostS, results, Tryz.results111]
theorem catch_idle (C : Nat) (w : World) :
    CallsD Tryz.prog 111 #[.pointer (some ⟨C, 0, none⟩)] .returning w fun e u' w' => e = .returned (.tuple #[]) ∧ u' = .returning ∧ w' = w := by
  refine callsD_of_wpS Tryz.func111 rfl fun c₀ cs hu => ?_
  apply wpS_seq
  apply wpS_region
  simp [wpOpsS, go_sem, recoverD, hu, Tryz.ntmps111, Exit.thenS]
  refine wpS_cond (t := false) (by simp [Act.eval, Array.replicate]) ?_
  simp only [Bool.false_eq_true, if_false]
  refine wpS_of_wp (wp_skip ?_)
  cases c₀
  simp_all [bodyPostS, results, Tryz.results111]
def ParC (l : List UInt8) (w : World) (e : Ending) (w' : World) : Prop :=
  ∃ v, e = .returned (.tuple #[v, .int .i64 (pxE l)]) ∧ OwnR w' w.heap.size 47 v (pxL l) ∧ Later w w'
theorem i_parsedT (l : List UInt8) (w : World) (hl : l.length ≤ 1048576) (hW : Wst w) (hO : Ops w) : Calls Tryz.prog 61 #[.string (tx l), .func (.func 62) #[] #[]] w (ParC l w) := by
  have RT := Lib.hid (fun W h => i_ReadTokens (tx l) W hl h)
  rw [tx_data] at RT
  have HW := Lib.hid hW
  have HO := Lib.hid hO
  have hg1 := hO.lt
  have HC : Hid (∀ v e w', e = .returned (.tuple #[v, .int .i64 (pxE l)]) → OwnR w' w.heap.size 47 v (pxL l) → Later w w' → ParC l w e w') := Lib.hid (fun v e w' a b c => ⟨v, a, b, c⟩)
  have hmf : ∀ (fn : Fn) (first cap : Array Value) (w : World), (Instr.makeFunc fn first cap).run Tryz.prog w = .ok (.func fn first cap) w := fun _ _ _ _ => rfl
  obtain ⟨s, hs⟩ : ∃ s, s = tx l := ⟨_, rfl⟩
  rw [← hs] at RT ⊢
  have A0 : Hid (Later w (w.alloc (.cells #[.int .i64 0] 2))) := Lib.hid ((Later.refl _).alloc _)
  have F0 : Hid (Fr w.heap.size [.int .i64 0] (w.alloc (.cells #[.int .i64 0] 2))) := Lib.hid (fr_alloc (Later.refl _))
  clear hs hW hO
  go_enter_defers Tryz.func61, Tryz.ntmps61
  go_wp2_with fail
  refine (RT.out _ (HW.out.later A0.out)).mono ?_
  rintro e w1 ⟨v, rfl, ho, hb⟩
  have F1 := Lib.hid (fr_later F0.out hb)
  have L1 := Lib.hid (Later.trans A0.out hb)
  obtain ⟨a, cap, rfl, hcap, hT, hab, _, _⟩ := ho.tks
  have HT := Lib.hid hT
  have HAB := Lib.hid hab
  have hz1 : w.heap.size < w1.heap.size := F1.out.lt
  obtain ⟨c0, f0⟩ := F1.out.o1
  clear hb ho hT hab F0
  by_cases hE : rtE l = 0
  · rw [hE]
    have HTL : Hid ((rtL l).map (·.2) = tkT l) := Lib.hid (by unfold rtL; rw [if_pos hE, tkI_tx]; rfl)
    have hlen : (rtL l).length ≤ 800 := by
      unfold rtL
      rw [if_pos hE]
      unfold rtE at hE
      split at hE
      · cases hE
      · split at hE
        · cases hE
        · split at hE
          · cases hE
          · unfold tkI; rw [List.length_map]; omega
    obtain ⟨n, hn⟩ : ∃ n, n = (rtL l).length := ⟨_, rfl⟩
    have hnT : (tkT l).length = n := by rw [← HTL.out, List.length_map, hn]
    rw [← hn] at HT hcap hlen ⊢
    have HPX : Hid (pxE l = (match pxR l with | .ok _ [] => 0 | _ => 6) ∧ pxL l = (match pxR l with | .ok a [] => a | _ => [])) := Lib.hid (by unfold pxE pxL; rw [if_pos hE, if_pos hE]; exact ⟨rfl, rfl⟩)
    clear hn hE
    -- the parser's own block
    have F2 : Hid (Fr w.heap.size [.int .i64 0] (w1.setCell ⟨w.heap.size, 0, none⟩ (.int .i64 0))) := Lib.hid ⟨by rw [World.size_setCell]; exact F1.out.lt, fun j v hj => by
      cases j with
      | zero => simp at hj; subst hj; exact ⟨World.cell?_setCell_same _ _ _ c0, by rw [World.frozen?_setCell]; exact f0⟩
      | succ j => simp at hj⟩
    have T2 := Lib.hid (HT.out.set (g := w.heap.size) (j := 0) (fun x e => by have := (HAB.out x e).1; simp at this; omega) (.int .i64 0))
    have L2 : Hid (Later w (w1.setCell ⟨w.heap.size, 0, none⟩ (.int .i64 0))) := Lib.hid (L1.out.setCell (p := ⟨w.heap.size, 0, none⟩) (Nat.le_refl _) _)
    have hsz2 : (w1.setCell ⟨w.heap.size, 0, none⟩ (.int .i64 0)).heap.size = w1.heap.size := World.size_setCell _ _ _
    go_wp2_with fail
    generalize hg : w1.setCell ⟨w.heap.size, 0, none⟩ (.int .i64 0) = w2 at F2 T2 L2 hsz2 ⊢
    clear hg c0 f0
    have F3 := Lib.hid (fr_later F2.out ((Later.refl w2).alloc (.cells #[.slice a n cap] 135)))
    have L3 := Lib.hid (L2.out.alloc (.cells #[.slice a n cap] 135))
    have T3 := Lib.hid (T2.out.later ((Later.refl w2).alloc (.cells #[.slice a n cap] 135)))
    have FG : Hid (Fr w2.heap.size [.slice a n cap] (w2.alloc (.cells #[.slice a n cap] 135))) := Lib.hid (fr_alloc (Later.refl _))
    have PG : Hid (PSt (w2.alloc (.cells #[.slice a n cap] 135)) w2.heap.size (tkT l)) := Lib.hid ⟨a, n, cap, rtL l, FG.out.o1.1, FG.out.o1.2, hcap, T3.out, fun x e => by have := (HAB.out x e).2; omega, HTL.out, tkT_kd l⟩
    have hOps3 := HO.out.later L3.out
    have hErr3 := (HW.out.later L3.out).errs
    have hEl : Ops w ∧ Errs w := ⟨HO.out, HW.out.errs⟩
    have EG : Hid (Env (w2.alloc (.cells #[.slice a n cap] 135)) w2.heap.size) := Lib.hid ⟨hOps3, hErr3, by have := HO.out.lt; omega, by
      obtain ⟨⟨t1, p1, e1⟩, _⟩ := HW.out.errs
      have := var_lt gSyn e1 (by simp)
      omega, by
      obtain ⟨_, t1, p1, e1⟩ := HW.out.errs
      have := var_lt gRan e1 (by simp)
      omega⟩
    have CE := Lib.hid ((i_parts (4 * (tkT l).length + 3)).1 (tkT l) _ w2.heap.size PG.out EG.out (by omega) (pxR_in l))
    have HPI := Lib.hid (pxR_in l)
    have CE : Hid (Calls Tryz.prog 62 #[.pointer (some ⟨w2.heap.size, 0, none⟩)] (w2.alloc (.cells #[.slice a n cap] 135)) (RetI (w2.alloc (.cells #[.slice a n cap] 135)) w2.heap.size (pxR l))) := Lib.hid CE.out
    rw [hsz2] at CE
    clear hOps3 hErr3 hEl T2 T3 F2 L2 PG EG FG
    generalize pxR l = X at CE HPX HPI
    generalize hg : w2.alloc (.cells #[.slice a n cap] 135) = w3 at CE F3 L3 ⊢
    have hs3 : w1.heap.size < w3.heap.size := by rw [← hg, World.size_alloc]; omega
    clear hg
    refine CE.out.mono ?_
    rintro e w4 ⟨hg4, hr⟩
    have HG4 := Lib.hid hg4
    have F4 : Hid (Fr w.heap.size [.int .i64 0] w4) := Lib.hid ⟨Nat.lt_of_lt_of_le F3.out.lt hg4.size, fun j v hj => ⟨hg4.cell (F3.out.2 j v hj).1 (fun e => by have h2 : w.heap.size = w1.heap.size := Option.some.inj e; omega), by rw [World.frozen?_of_block (hg4.block w.heap.size F3.out.lt (fun e => by have h2 : w.heap.size = w1.heap.size := Option.some.inj e; omega))]; exact (F3.out.2 j v hj).2⟩⟩
    have L4 : Hid (Later w w4) := Lib.hid (Below.grown L3.out hg4 L3.out.size (fun q e => by have := Option.some.inj e; omega))
    obtain ⟨c4, f4⟩ := F4.out.o1
    clear hg4 F3 L3 CE
    have PANW : Hid (Later w (w4.setCell ⟨w.heap.size, 0, none⟩ (.int .i64 6))) := Lib.hid (L4.out.setCell (p := ⟨w.heap.size, 0, none⟩) (Nat.le_refl _) _)
    have PANC : (w4.setCell ⟨w.heap.size, 0, none⟩ (.int .i64 6)).cell? ⟨w.heap.size, 0, none⟩ = some (.int .i64 6) := World.cell?_setCell_same _ _ _ c4
    have IDLW : Hid (Later w (w4.setCell ⟨w.heap.size, 0, none⟩ (.int .i64 0))) := Lib.hid (L4.out.setCell (p := ⟨w.heap.size, 0, none⟩) (Nat.le_refl _) _)
    have IDLC : (w4.setCell ⟨w.heap.size, 0, none⟩ (.int .i64 0)).cell? ⟨w.heap.size, 0, none⟩ = some (.int .i64 0) := World.cell?_setCell_same _ _ _ c4
    cases X with
    | out => exact absurd rfl HPI.out
    | bad =>
      have hr : e = Bad := hr
      subst hr
      unfold Bad
      go_wp2_with fail
      refine leaves_cons (f := 111) (args := #[.pointer (some ⟨w.heap.size, 0, none⟩)]) (by simp) (by simp [go_sem]) ?_
      refine (catch_pan w.heap.size 0 _ c4 f4).mono ?_
      rintro e u' w'' ⟨rfl, rfl, rfl⟩
      refine ⟨.tuple #[.slice none 0 0, .int .i64 6], by simp [results, Tryz.results61, go_sem, PANC], HC.out _ _ _ (by rw [HPX.out.1]) ?_ PANW.out⟩
      rw [HPX.out.2]
      exact ownR_none _ _ _
    | ok aa r =>
      obtain ⟨vv, rfl, hoo, hpp⟩ := hr
      have HOO := Lib.hid hoo
      obtain ⟨ra, rn, rcap, RL, rc0, rf0, rle, rtk, rbl, rmap, _⟩ := hpp
      have hrl : rn = r.length := by rw [← rmap, List.length_map, rtk.1]
      subst hrl
      have hgl : w1.heap.size < w4.heap.size := cell_lt rc0
      clear hoo rf0 rle rtk rbl rmap
      cases r with
      | nil =>
        have OF : Hid (OwnR (w4.setCell ⟨w.heap.size, 0, none⟩ (.int .i64 0)) w.heap.size 47 vv aa) := Lib.hid ((HOO.out.kept (grP_own1 w4 w.heap.size 0 (.int .i64 0)) (fun k e e2 => by have := (HOO.out.lt k e).1; have := Option.some.inj e2; omega)).mono (by omega))
        simp only [List.length_nil] at rc0
        go_wp2_with fail
        refine leaves_cons (f := 111) (args := #[.pointer (some ⟨w.heap.size, 0, none⟩)]) (by simp) (by simp [go_sem]) ?_
        refine (catch_idle w.heap.size _).mono ?_
        rintro e u' w'' ⟨rfl, rfl, rfl⟩
        refine ⟨.tuple #[vv, .int .i64 0], by simp [results, Tryz.results61, go_sem, IDLC], HC.out _ _ _ (by rw [HPX.out.1]) ?_ IDLW.out⟩
        rw [HPX.out.2]
        exact OF.out
      | cons y r =>
        simp only [List.length_cons] at rc0
        have hpos : 0 < r.length + 1 := by omega
        go_wp2_with fail
        refine leaves_cons (f := 111) (args := #[.pointer (some ⟨w.heap.size, 0, none⟩)]) (by simp) (by simp [go_sem]) ?_
        refine (catch_pan w.heap.size 0 _ c4 f4).mono ?_
        rintro e u' w'' ⟨rfl, rfl, rfl⟩
        refine ⟨.tuple #[.slice none 0 0, .int .i64 6], by simp [results, Tryz.results61, go_sem, PANC], HC.out _ _ _ (by rw [HPX.out.1]) ?_ PANW.out⟩
        rw [HPX.out.2]
        exact ownR_none _ _ _
  · have HX : Hid (pxE l = rtE l ∧ pxL l = []) := Lib.hid (by unfold pxE pxL; rw [if_neg hE, if_neg hE]; exact ⟨rfl, rfl⟩)
    have e1 : (rtE l != 0) = true := by simpa using hE
    obtain ⟨c, hc⟩ : ∃ c, c = rtE l := ⟨_, rfl⟩
    rw [← hc] at HX e1 ⊢
    clear hE hc HT hcap
    generalize (rtL l).length = n
    go_wp2_with fail
    go_region
    all_goals
      go_wp2_with fail
      refine ⟨.tuple #[.slice none 0 0, .int .i64 c], by simp [results, Tryz.results61, go_sem, *], HC.out _ _ _ (by rw [HX.out.1]) ?_ ?_⟩
      · rw [HX.out.2]; exact ownR_none _ _ _
      · exact (by repeat (first | (with_reducible exact L1.out) | (with_reducible refine Later.setCell ?_ (Nat.le_refl _) _) | (with_reducible refine Later.drewN ?_ _) | (with_reducible refine Later.drew ?_)))
end Go.Proofs.YtggnhdeldmkdmaaGreatDoor
