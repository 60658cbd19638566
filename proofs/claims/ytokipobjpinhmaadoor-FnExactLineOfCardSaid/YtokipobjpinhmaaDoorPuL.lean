/- LineOf, of the program and of the model. -/
import Derived.Test.YtokipobjpinhmaaDoorPuT
import Derived.Test.YtokipobjpinhmaaDoorPsWj
import Derived.Test.YtokipobjpinhmaaDoorPsWk
namespace Go.Proofs.YtokipobjpinhmaaDoor
open Go.RowKit Go.Shelf
set_option maxHeartbeats 4000000
set_option maxRecDepth 100000
set_option linter.unusedVariables false
set_option linter.unusedSimpArgs false
/-- what LineOf says -/
def lnV (p : Prg) (x : List UInt8) : Int := if wrtB p = true then (if ixV (tgs p.lns) x < 0 then 0 else ixV (tgs p.lns) x) else 0
def lnE (p : Prg) (x : List UInt8) : Int := if wrtB p = true then (if ixV (tgs p.lns) x < 0 then 4 else 0) else 1
theorem ix_rng (p : Prg) (x : List UInt8) (h : p.lns.length ≤ 1048576) : -1 ≤ ixV (tgs p.lns) x ∧ ixV (tgs p.lns) x ≤ 1048576 := by
  have := ixV_lo (tgs p.lns) x
  rw [tgs_len] at this
  omega
theorem tgs_short {w : World} {a : Option Addr} {n : Nat} {M : List Lne} (h : Lns w a n M) : ∀ x ∈ tgs M, x.length ≤ 1048576 := by
  intro x hx
  obtain ⟨y, hy, rfl⟩ := List.mem_map.1 hx
  exact (h.2.2.2 y hy).1
theorem i_LineOf (v : Value) (p : Prg) (x : List UInt8) (w : World) (hp : PgV w v p) (ho : Ops w) (hl : p.lns.length ≤ 1048576) :
    Calls Tryd.prog 22 #[v, .string (tx x)] w fun e w' => e = .returned (.tuple #[.int .i64 (lnV p x), .int .i64 (lnE p x)]) ∧ Later w w' := by
  have IW := Lib.hid (fun W (h : Later w W) => i_IsWritten v p W (hp.later h) (ho.later h) (by omega))
  have TG := Lib.hid (fun W (h : Later w W) => i_targets v p W (hp.later h) hl)
  have IX := Lib.hid (fun a n cap W h => i_IndexT a n cap (tgs p.lns) x W h)
  have HR := Lib.hid (ix_rng p x hl)
  have HV : Hid (lnV p x = if wrtB p = true then (if ixV (tgs p.lns) x < 0 then 0 else ixV (tgs p.lns) x) else 0) := Lib.hid rfl
  have HE : Hid (lnE p x = if wrtB p = true then (if ixV (tgs p.lns) x < 0 then 4 else 0) else 1) := Lib.hid rfl
  obtain ⟨a1, c1, a2, c2, a3, c3, a4, c4, rfl, h1, h2, h3, h4, h5, h6⟩ := hp
  have SH := Lib.hid (tgs_short h4)
  clear h1 h2 h3 h4 h5 h6 ho hl
  obtain ⟨X, hX⟩ : ∃ q, q = tx x := ⟨_, rfl⟩
  rw [← hX] at IX ⊢
  generalize lnV p x = V at HV ⊢
  generalize lnE p x = E at HE ⊢
  generalize wrtB p = b at IW HV HE
  generalize ixV (tgs p.lns) x = r at IX HR HV HE
  obtain ⟨s0, hs0⟩ : ∃ q, q = tx p.nm := ⟨_, rfl⟩
  obtain ⟨s4, hs4⟩ : ∃ q, q = tx p.grd := ⟨_, rfl⟩
  obtain ⟨n1, hn1⟩ : ∃ q, q = p.ins.length := ⟨_, rfl⟩
  obtain ⟨n2, hn2⟩ : ∃ q, q = p.vrs.length := ⟨_, rfl⟩
  obtain ⟨n3, hn3⟩ : ∃ q, q = p.outs.length := ⟨_, rfl⟩
  obtain ⟨n4, hn4⟩ : ∃ q, q = p.lns.length := ⟨_, rfl⟩
  simp only [← hs0, ← hs4, ← hn1, ← hn2, ← hn3, ← hn4] at IW TG ⊢
  generalize tgs p.lns = T at *
  clear hs0 hs4 hn1 hn2 hn3 hn4 hX
  have q0 : (w.alloc (.cells #[.string s0, .slice a1 n1 c1, .slice a2 n2 c2, .slice a3 n3 c3, .string s4, .slice a4 n4 c4] 27)).cell? ⟨w.heap.size, 0, none⟩ = some (.string s0) := by rw [cell_of_row _ _ 0 _ _ (0, 0) (heap_alloc_new w _)]; rfl
  have q1 : (w.alloc (.cells #[.string s0, .slice a1 n1 c1, .slice a2 n2 c2, .slice a3 n3 c3, .string s4, .slice a4 n4 c4] 27)).cell? ⟨w.heap.size, 1, none⟩ = some (.slice a1 n1 c1) := by rw [cell_of_row _ _ 1 _ _ (0, 0) (heap_alloc_new w _)]; rfl
  have q2 : (w.alloc (.cells #[.string s0, .slice a1 n1 c1, .slice a2 n2 c2, .slice a3 n3 c3, .string s4, .slice a4 n4 c4] 27)).cell? ⟨w.heap.size, 2, none⟩ = some (.slice a2 n2 c2) := by rw [cell_of_row _ _ 2 _ _ (0, 0) (heap_alloc_new w _)]; rfl
  have q3 : (w.alloc (.cells #[.string s0, .slice a1 n1 c1, .slice a2 n2 c2, .slice a3 n3 c3, .string s4, .slice a4 n4 c4] 27)).cell? ⟨w.heap.size, 3, none⟩ = some (.slice a3 n3 c3) := by rw [cell_of_row _ _ 3 _ _ (0, 0) (heap_alloc_new w _)]; rfl
  have q4 : (w.alloc (.cells #[.string s0, .slice a1 n1 c1, .slice a2 n2 c2, .slice a3 n3 c3, .string s4, .slice a4 n4 c4] 27)).cell? ⟨w.heap.size, 4, none⟩ = some (.string s4) := by rw [cell_of_row _ _ 4 _ _ (0, 0) (heap_alloc_new w _)]; rfl
  have q5 : (w.alloc (.cells #[.string s0, .slice a1 n1 c1, .slice a2 n2 c2, .slice a3 n3 c3, .string s4, .slice a4 n4 c4] 27)).cell? ⟨w.heap.size, 5, none⟩ = some (.slice a4 n4 c4) := by rw [cell_of_row _ _ 5 _ _ (0, 0) (heap_alloc_new w _)]; rfl
  have hW0 : w.heap.size < (w.alloc (.cells #[.string s0, .slice a1 n1 c1, .slice a2 n2 c2, .slice a3 n3 c3, .string s4, .slice a4 n4 c4] 27)).heap.size := by rw [World.size_alloc]; exact Nat.lt_succ_self _
  have C0 : Hid (∀ W', Later (w.alloc (.cells #[.string s0, .slice a1 n1 c1, .slice a2 n2 c2, .slice a3 n3 c3, .string s4, .slice a4 n4 c4] 27)) W' → W'.cell? ⟨w.heap.size, 0, none⟩ = some (.string s0) ∧ W'.cell? ⟨w.heap.size, 1, none⟩ = some (.slice a1 n1 c1) ∧ W'.cell? ⟨w.heap.size, 2, none⟩ = some (.slice a2 n2 c2) ∧ W'.cell? ⟨w.heap.size, 3, none⟩ = some (.slice a3 n3 c3) ∧ W'.cell? ⟨w.heap.size, 4, none⟩ = some (.string s4) ∧ W'.cell? ⟨w.heap.size, 5, none⟩ = some (.slice a4 n4 c4)) := Lib.hid (fun W' q => ⟨by rw [q.cell (p := ⟨w.heap.size, 0, none⟩) hW0]; exact q0, by rw [q.cell (p := ⟨w.heap.size, 1, none⟩) hW0]; exact q1, by rw [q.cell (p := ⟨w.heap.size, 2, none⟩) hW0]; exact q2, by rw [q.cell (p := ⟨w.heap.size, 3, none⟩) hW0]; exact q3, by rw [q.cell (p := ⟨w.heap.size, 4, none⟩) hW0]; exact q4, by rw [q.cell (p := ⟨w.heap.size, 5, none⟩) hW0]; exact q5⟩)
  have A0 : Hid (Later w (w.alloc (.cells #[.string s0, .slice a1 n1 c1, .slice a2 n2 c2, .slice a3 n3 c3, .string s4, .slice a4 n4 c4] 27))) := Lib.hid ((Later.refl _).alloc _)
  clear hW0
  cases b
  · have HV2 : V = 0 := HV.out
    have HE2 : E = 1 := HE.out
    subst HV2; subst HE2
    go_enter Tryd.func22, Tryd.ntmps22
    go_wp2_with fail
    generalize (w.alloc (.cells #[.string s0, .slice a1 n1 c1, .slice a2 n2 c2, .slice a3 n3 c3, .string s4, .slice a4 n4 c4] 27)) = W0 at C0 A0 q0 q1 q2 q3 q4 q5 ⊢
    refine (IW.out _ A0.out).mono ?_
    rintro e w1 ⟨rfl, hb⟩
    have B1 := Lib.hid (Later.trans A0.out hb)
    clear hb q0 q1 q2 q3 q4 q5
    go_wp2_with fail
    all_goals
      refine bodyPost_ret (v := .tuple #[.int .i64 0, .int .i64 1]) (by simp [results, Tryd.results22, go_sem, *]) rfl ⟨rfl, B1.out⟩
  · have HV2 : V = if r < 0 then 0 else r := HV.out
    have HE2 : E = if r < 0 then 4 else 0 := HE.out
    have hr := HR.out
    go_enter Tryd.func22, Tryd.ntmps22
    go_wp2_with fail
    generalize (w.alloc (.cells #[.string s0, .slice a1 n1 c1, .slice a2 n2 c2, .slice a3 n3 c3, .string s4, .slice a4 n4 c4] 27)) = W0 at C0 A0 q0 q1 q2 q3 q4 q5 ⊢
    refine (IW.out _ A0.out).mono ?_
    rintro e w1 ⟨rfl, hb⟩
    have B1 := Lib.hid (Later.trans A0.out hb)
    clear q0 q1 q2 q3 q4 q5
    obtain ⟨q0, q1, q2, q3, q4, q5⟩ := C0.out _ hb
    clear hb
    go_wp2_with fail
    refine (TG.out _ B1.out).mono ?_
    rintro e w2 ⟨u, rfl, ho, hb⟩
    have B2 := Lib.hid (Later.trans B1.out hb)
    obtain ⟨a, c, rfl, _, hs, _⟩ := ho.sts SH.out
    have IX2 := Lib.hid (IX.out a _ c w2 hs)
    clear ho hs hb q0 q1 q2 q3 q4 q5
    generalize T.length = n at IX2 ⊢
    go_wp2_with fail
    refine IX2.out.mono ?_
    rintro e w3 ⟨rfl, rfl⟩
    by_cases hc : r < 0
    · rw [if_pos hc] at HV2 HE2
      subst HV2; subst HE2
      go_wp2_with fail
      all_goals
        refine bodyPost_ret (v := .tuple #[.int .i64 0, .int .i64 4]) (by simp [results, Tryd.results22, go_sem, *]) rfl ⟨rfl, B2.out⟩
    · rw [if_neg hc] at HV2 HE2
      subst HE2
      obtain rfl : V = r := HV2
      go_wp2_with fail
      all_goals
        refine bodyPost_ret (v := .tuple #[.int .i64 V, .int .i64 0]) (by simp [results, Tryd.results22, go_sem, *]) rfl ⟨rfl, B2.out⟩
theorem s_Line (v : Value) (p : Prg) (x : List UInt8) (w : World) (hp : PgV w v p) (hl : p.lns.length ≤ 1048576) :
    Calls Tryd.prog 66 #[v, .string (tx x)] w fun e w' => e = .returned (.int .i64 (ixV (tgs p.lns) x)) ∧ Later w w' := by
  obtain ⟨a1, c1, a2, c2, a3, c3, a4, c4, rfl, h1, h2, h3, h4, h5, h6⟩ := hp
  have P4 := Lib.hid h4
  have TA : Hid (∀ j, j < p.lns.length → wx (tgs p.lns) j = ltx p.lns j) := Lib.hid (fun j h => tgs_at p.lns j h)
  have EQ := Lib.hid (fun y => eqx y x)
  have RH : Hid (∀ j, j < p.lns.length → wx (tgs p.lns) j = x → (∀ i, i < j → wx (tgs p.lns) i ≠ x) → ixV (tgs p.lns) x = (j : Int)) := Lib.hid (fun j h1 h2 h3 => ixV_hit (tgs p.lns) x j (by rw [tgs_len]; exact h1) h2 h3)
  have RM : Hid ((∀ i, i < p.lns.length → wx (tgs p.lns) i ≠ x) → ixV (tgs p.lns) x = -1) := Lib.hid (fun h => ixV_miss (tgs p.lns) x (by rw [tgs_len]; exact h))
  clear h1 h2 h3 h4 h5 h6
  obtain ⟨X, hX⟩ : ∃ q, q = tx x := ⟨_, rfl⟩
  rw [← hX] at EQ ⊢
  obtain ⟨s0, hs0⟩ : ∃ q, q = tx p.nm := ⟨_, rfl⟩
  obtain ⟨s4, hs4⟩ : ∃ q, q = tx p.grd := ⟨_, rfl⟩
  obtain ⟨n1, hn1⟩ : ∃ q, q = p.ins.length := ⟨_, rfl⟩
  obtain ⟨n2, hn2⟩ : ∃ q, q = p.vrs.length := ⟨_, rfl⟩
  obtain ⟨n3, hn3⟩ : ∃ q, q = p.outs.length := ⟨_, rfl⟩
  obtain ⟨n4, hn4⟩ : ∃ q, q = p.lns.length := ⟨_, rfl⟩
  simp only [← hs0, ← hs4, ← hn1, ← hn2, ← hn3, ← hn4] at P4 TA RH RM hl ⊢
  generalize ixV (tgs p.lns) x = r at RH RM ⊢
  generalize p.lns = M at *
  clear hs0 hs4 hn1 hn2 hn3 hn4 hX
  have q0 : (w.alloc (.cells #[.string s0, .slice a1 n1 c1, .slice a2 n2 c2, .slice a3 n3 c3, .string s4, .slice a4 n4 c4] 27)).cell? ⟨w.heap.size, 0, none⟩ = some (.string s0) := by rw [cell_of_row _ _ 0 _ _ (0, 0) (heap_alloc_new w _)]; rfl
  have q1 : (w.alloc (.cells #[.string s0, .slice a1 n1 c1, .slice a2 n2 c2, .slice a3 n3 c3, .string s4, .slice a4 n4 c4] 27)).cell? ⟨w.heap.size, 1, none⟩ = some (.slice a1 n1 c1) := by rw [cell_of_row _ _ 1 _ _ (0, 0) (heap_alloc_new w _)]; rfl
  have q2 : (w.alloc (.cells #[.string s0, .slice a1 n1 c1, .slice a2 n2 c2, .slice a3 n3 c3, .string s4, .slice a4 n4 c4] 27)).cell? ⟨w.heap.size, 2, none⟩ = some (.slice a2 n2 c2) := by rw [cell_of_row _ _ 2 _ _ (0, 0) (heap_alloc_new w _)]; rfl
  have q3 : (w.alloc (.cells #[.string s0, .slice a1 n1 c1, .slice a2 n2 c2, .slice a3 n3 c3, .string s4, .slice a4 n4 c4] 27)).cell? ⟨w.heap.size, 3, none⟩ = some (.slice a3 n3 c3) := by rw [cell_of_row _ _ 3 _ _ (0, 0) (heap_alloc_new w _)]; rfl
  have q4 : (w.alloc (.cells #[.string s0, .slice a1 n1 c1, .slice a2 n2 c2, .slice a3 n3 c3, .string s4, .slice a4 n4 c4] 27)).cell? ⟨w.heap.size, 4, none⟩ = some (.string s4) := by rw [cell_of_row _ _ 4 _ _ (0, 0) (heap_alloc_new w _)]; rfl
  have q5 : (w.alloc (.cells #[.string s0, .slice a1 n1 c1, .slice a2 n2 c2, .slice a3 n3 c3, .string s4, .slice a4 n4 c4] 27)).cell? ⟨w.heap.size, 5, none⟩ = some (.slice a4 n4 c4) := by rw [cell_of_row _ _ 5 _ _ (0, 0) (heap_alloc_new w _)]; rfl
  have hW0 : w.heap.size < (w.alloc (.cells #[.string s0, .slice a1 n1 c1, .slice a2 n2 c2, .slice a3 n3 c3, .string s4, .slice a4 n4 c4] 27)).heap.size := by rw [World.size_alloc]; exact Nat.lt_succ_self _
  have C0 : Hid (∀ W', Later (w.alloc (.cells #[.string s0, .slice a1 n1 c1, .slice a2 n2 c2, .slice a3 n3 c3, .string s4, .slice a4 n4 c4] 27)) W' → W'.cell? ⟨w.heap.size, 0, none⟩ = some (.string s0) ∧ W'.cell? ⟨w.heap.size, 1, none⟩ = some (.slice a1 n1 c1) ∧ W'.cell? ⟨w.heap.size, 2, none⟩ = some (.slice a2 n2 c2) ∧ W'.cell? ⟨w.heap.size, 3, none⟩ = some (.slice a3 n3 c3) ∧ W'.cell? ⟨w.heap.size, 4, none⟩ = some (.string s4) ∧ W'.cell? ⟨w.heap.size, 5, none⟩ = some (.slice a4 n4 c4)) := Lib.hid (fun W' q => ⟨by rw [q.cell (p := ⟨w.heap.size, 0, none⟩) hW0]; exact q0, by rw [q.cell (p := ⟨w.heap.size, 1, none⟩) hW0]; exact q1, by rw [q.cell (p := ⟨w.heap.size, 2, none⟩) hW0]; exact q2, by rw [q.cell (p := ⟨w.heap.size, 3, none⟩) hW0]; exact q3, by rw [q.cell (p := ⟨w.heap.size, 4, none⟩) hW0]; exact q4, by rw [q.cell (p := ⟨w.heap.size, 5, none⟩) hW0]; exact q5⟩)
  have A0 : Hid (Later w (w.alloc (.cells #[.string s0, .slice a1 n1 c1, .slice a2 n2 c2, .slice a3 n3 c3, .string s4, .slice a4 n4 c4] 27))) := Lib.hid ((Later.refl _).alloc _)
  clear hW0
  have P5 := Lib.hid (P4.out.later A0.out)
  clear C0 q0 q1 q2 q3 q4
  go_enter Tryd.func66, Tryd.ntmps66
  go_wp2_with fail
  generalize (w.alloc (.cells #[.string s0, .slice a1 n1 c1, .slice a2 n2 c2, .slice a3 n3 c3, .string s4, .slice a4 n4 c4] 27)) = W0 at A0 P5 q5 ⊢
  go_loop [5] (fun i => ∃ k : Nat, k ≤ n4 ∧ i = .int .i64 k ∧ Hid (∀ j, j < k → wx (tgs M) j ≠ x)) (fun i => n4 - (intOf i).toNat)
  case atStart => exact ⟨0, by omega, rfl, Lib.hid (by intro j h; omega)⟩
  case round =>
    obtain ⟨k, hk, rfl, HI⟩ := hrel
    by_cases hlt : k < n4
    · obtain ⟨b, off, ta, tc, rfl, c0, _, _⟩ := P5.out.2.2.1 k hlt
      have EK := EQ.out (ltx M k)
      have ET := TA.out k hlt
      have HR0 := Lib.hid (RH.out k hlt)
      have HIE : Hid (wx (tgs M) k = ltx M k) := Lib.hid ET
      clear ET
      obtain ⟨y, hy⟩ : ∃ y, y = tx (ltx M k) := ⟨_, rfl⟩
      rw [← hy] at c0 EK
      clear hy
      by_cases he : ltx M k = x
      · rw [decide_eq_true he] at EK
        have HR := Lib.hid (HR0.out (HIE.out.trans he) HI.out)
        clear he
        go_wp2_with fail
        all_goals
          go_ret
          exact ⟨by rw [HR.out]; rfl, A0.out⟩
      · rw [decide_eq_false he] at EK
        have HE := Lib.hid he
        clear he
        go_wp2_with fail
        go_roundw
        case rel =>
          refine ⟨k + 1, by omega, by go_num, Lib.hid ?_⟩
          intro q hq
          rcases Nat.lt_or_ge q k with h1 | h1
          · exact HI.out q h1
          · obtain rfl : q = k := by omega
            rw [HIE.out]; exact HE.out
        case measure => simp [intOf]; omega
    · obtain rfl : k = n4 := by omega
      have HR := Lib.hid (RM.out HI.out)
      go_wp2_with fail
      all_goals
        go_ret
        exact ⟨by rw [HR.out]; rfl, A0.out⟩
theorem s_LineOf (v : Value) (p : Prg) (x : List UInt8) (w : World) (hp : PgV w v p) (hl : p.lns.length ≤ 1048576) :
    Calls Tryd.prog 27 #[v, .string (tx x)] w fun e w' => e = .returned (.tuple #[.int .i64 (lnV p x), .int .i64 (lnE p x)]) ∧ Later w w' := by
  have IW := Lib.hid (fun W (h : Later w W) => s_IsWritten v p W (hp.later h) (by omega))
  have TG := Lib.hid (fun W (h : Later w W) => s_Line v p x W (hp.later h) hl)
  have HR := Lib.hid (ix_rng p x hl)
  have HV : Hid (lnV p x = if wrtB p = true then (if ixV (tgs p.lns) x < 0 then 0 else ixV (tgs p.lns) x) else 0) := Lib.hid rfl
  have HE : Hid (lnE p x = if wrtB p = true then (if ixV (tgs p.lns) x < 0 then 4 else 0) else 1) := Lib.hid rfl
  obtain ⟨a1, c1, a2, c2, a3, c3, a4, c4, rfl, h1, h2, h3, h4, h5, h6⟩ := hp
  clear h1 h2 h3 h4 h5 h6 hl
  obtain ⟨X, hX⟩ : ∃ q, q = tx x := ⟨_, rfl⟩
  rw [← hX] at TG ⊢
  generalize lnV p x = V at HV ⊢
  generalize lnE p x = E at HE ⊢
  generalize wrtB p = b at IW HV HE
  generalize ixV (tgs p.lns) x = r at TG HR HV HE
  obtain ⟨s0, hs0⟩ : ∃ q, q = tx p.nm := ⟨_, rfl⟩
  obtain ⟨s4, hs4⟩ : ∃ q, q = tx p.grd := ⟨_, rfl⟩
  obtain ⟨n1, hn1⟩ : ∃ q, q = p.ins.length := ⟨_, rfl⟩
  obtain ⟨n2, hn2⟩ : ∃ q, q = p.vrs.length := ⟨_, rfl⟩
  obtain ⟨n3, hn3⟩ : ∃ q, q = p.outs.length := ⟨_, rfl⟩
  obtain ⟨n4, hn4⟩ : ∃ q, q = p.lns.length := ⟨_, rfl⟩
  simp only [← hs0, ← hs4, ← hn1, ← hn2, ← hn3, ← hn4] at IW TG ⊢
  clear hs0 hs4 hn1 hn2 hn3 hn4 hX
  have q0 : (w.alloc (.cells #[.string s0, .slice a1 n1 c1, .slice a2 n2 c2, .slice a3 n3 c3, .string s4, .slice a4 n4 c4] 27)).cell? ⟨w.heap.size, 0, none⟩ = some (.string s0) := by rw [cell_of_row _ _ 0 _ _ (0, 0) (heap_alloc_new w _)]; rfl
  have q1 : (w.alloc (.cells #[.string s0, .slice a1 n1 c1, .slice a2 n2 c2, .slice a3 n3 c3, .string s4, .slice a4 n4 c4] 27)).cell? ⟨w.heap.size, 1, none⟩ = some (.slice a1 n1 c1) := by rw [cell_of_row _ _ 1 _ _ (0, 0) (heap_alloc_new w _)]; rfl
  have q2 : (w.alloc (.cells #[.string s0, .slice a1 n1 c1, .slice a2 n2 c2, .slice a3 n3 c3, .string s4, .slice a4 n4 c4] 27)).cell? ⟨w.heap.size, 2, none⟩ = some (.slice a2 n2 c2) := by rw [cell_of_row _ _ 2 _ _ (0, 0) (heap_alloc_new w _)]; rfl
  have q3 : (w.alloc (.cells #[.string s0, .slice a1 n1 c1, .slice a2 n2 c2, .slice a3 n3 c3, .string s4, .slice a4 n4 c4] 27)).cell? ⟨w.heap.size, 3, none⟩ = some (.slice a3 n3 c3) := by rw [cell_of_row _ _ 3 _ _ (0, 0) (heap_alloc_new w _)]; rfl
  have q4 : (w.alloc (.cells #[.string s0, .slice a1 n1 c1, .slice a2 n2 c2, .slice a3 n3 c3, .string s4, .slice a4 n4 c4] 27)).cell? ⟨w.heap.size, 4, none⟩ = some (.string s4) := by rw [cell_of_row _ _ 4 _ _ (0, 0) (heap_alloc_new w _)]; rfl
  have q5 : (w.alloc (.cells #[.string s0, .slice a1 n1 c1, .slice a2 n2 c2, .slice a3 n3 c3, .string s4, .slice a4 n4 c4] 27)).cell? ⟨w.heap.size, 5, none⟩ = some (.slice a4 n4 c4) := by rw [cell_of_row _ _ 5 _ _ (0, 0) (heap_alloc_new w _)]; rfl
  have hW0 : w.heap.size < (w.alloc (.cells #[.string s0, .slice a1 n1 c1, .slice a2 n2 c2, .slice a3 n3 c3, .string s4, .slice a4 n4 c4] 27)).heap.size := by rw [World.size_alloc]; exact Nat.lt_succ_self _
  have C0 : Hid (∀ W', Later (w.alloc (.cells #[.string s0, .slice a1 n1 c1, .slice a2 n2 c2, .slice a3 n3 c3, .string s4, .slice a4 n4 c4] 27)) W' → W'.cell? ⟨w.heap.size, 0, none⟩ = some (.string s0) ∧ W'.cell? ⟨w.heap.size, 1, none⟩ = some (.slice a1 n1 c1) ∧ W'.cell? ⟨w.heap.size, 2, none⟩ = some (.slice a2 n2 c2) ∧ W'.cell? ⟨w.heap.size, 3, none⟩ = some (.slice a3 n3 c3) ∧ W'.cell? ⟨w.heap.size, 4, none⟩ = some (.string s4) ∧ W'.cell? ⟨w.heap.size, 5, none⟩ = some (.slice a4 n4 c4)) := Lib.hid (fun W' q => ⟨by rw [q.cell (p := ⟨w.heap.size, 0, none⟩) hW0]; exact q0, by rw [q.cell (p := ⟨w.heap.size, 1, none⟩) hW0]; exact q1, by rw [q.cell (p := ⟨w.heap.size, 2, none⟩) hW0]; exact q2, by rw [q.cell (p := ⟨w.heap.size, 3, none⟩) hW0]; exact q3, by rw [q.cell (p := ⟨w.heap.size, 4, none⟩) hW0]; exact q4, by rw [q.cell (p := ⟨w.heap.size, 5, none⟩) hW0]; exact q5⟩)
  have A0 : Hid (Later w (w.alloc (.cells #[.string s0, .slice a1 n1 c1, .slice a2 n2 c2, .slice a3 n3 c3, .string s4, .slice a4 n4 c4] 27))) := Lib.hid ((Later.refl _).alloc _)
  clear hW0
  cases b
  · have HV2 : V = 0 := HV.out
    have HE2 : E = 1 := HE.out
    subst HV2; subst HE2
    go_enter Tryd.func27, Tryd.ntmps27
    go_wp2_with fail
    generalize (w.alloc (.cells #[.string s0, .slice a1 n1 c1, .slice a2 n2 c2, .slice a3 n3 c3, .string s4, .slice a4 n4 c4] 27)) = W0 at C0 A0 q0 q1 q2 q3 q4 q5 ⊢
    refine (IW.out _ A0.out).mono ?_
    rintro e w1 ⟨rfl, hb⟩
    have B1 := Lib.hid (Later.trans A0.out hb)
    clear hb q0 q1 q2 q3 q4 q5
    go_wp2_with fail
    all_goals
      refine bodyPost_ret (v := .tuple #[.int .i64 0, .int .i64 1]) (by simp [results, Tryd.results27, go_sem, *]) rfl ⟨rfl, B1.out⟩
  · have HV2 : V = if r < 0 then 0 else r := HV.out
    have HE2 : E = if r < 0 then 4 else 0 := HE.out
    have hr := HR.out
    go_enter Tryd.func27, Tryd.ntmps27
    go_wp2_with fail
    generalize (w.alloc (.cells #[.string s0, .slice a1 n1 c1, .slice a2 n2 c2, .slice a3 n3 c3, .string s4, .slice a4 n4 c4] 27)) = W0 at C0 A0 q0 q1 q2 q3 q4 q5 ⊢
    refine (IW.out _ A0.out).mono ?_
    rintro e w1 ⟨rfl, hb⟩
    have B1 := Lib.hid (Later.trans A0.out hb)
    clear q0 q1 q2 q3 q4 q5
    obtain ⟨q0, q1, q2, q3, q4, q5⟩ := C0.out _ hb
    clear hb
    go_wp2_with fail
    refine (TG.out _ B1.out).mono ?_
    rintro e w2 ⟨rfl, hb⟩
    have B2 := Lib.hid (Later.trans B1.out hb)
    clear hb q0 q1 q2 q3 q4 q5
    by_cases hc : r < 0
    · rw [if_pos hc] at HV2 HE2
      subst HV2; subst HE2
      go_wp2_with fail
      all_goals
        refine bodyPost_ret (v := .tuple #[.int .i64 0, .int .i64 4]) (by simp [results, Tryd.results27, go_sem, *]) rfl ⟨rfl, B2.out⟩
    · rw [if_neg hc] at HV2 HE2
      subst HE2
      obtain rfl : V = r := HV2
      go_wp2_with fail
      all_goals
        refine bodyPost_ret (v := .tuple #[.int .i64 V, .int .i64 0]) (by simp [results, Tryd.results27, go_sem, *]) rfl ⟨rfl, B2.out⟩
end Go.Proofs.YtokipobjpinhmaaDoor
