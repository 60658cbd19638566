/- The model's l14Fault. | The model's ProgramFault, IsSound and l14Code. | The walks of the exact laws on ProgramFault and IsSound. -/
import Derived.Test.YtokipobjpinhmaaDoorMgPuW1
namespace Go.Proofs.YtokipobjpinhmaaDoor
open Go.RowKit Go.Shelf
set_option maxHeartbeats 16000000
set_option maxRecDepth 100000
set_option linter.unusedVariables false
set_option linter.unusedSimpArgs false
theorem OwnT.rowC {w : World} {base : Nat} {v : Value} {l : List (List UInt8)} (h : OwnT w base v l) (hl : l ≠ []) (hs : ∀ x ∈ l, x.length ≤ 1048576) {n : Nat} (hn : l.length = n) : ∃ g cap, v = .slice (some ⟨g, 0, none⟩) n cap ∧ n ≤ cap ∧ cap ≤ 9223372036854775807 ∧ Sts w (some ⟨g, 0, none⟩) n l := by
  subst hn
  have h1 : w.ownsRow base 9 1 v l.length (l.map (fun x => Value.string (tx x))) := h
  obtain ⟨a, c, rfl, hc, hsts, _⟩ := h.sts hs
  rcases h1.2 with ⟨e, hz⟩ | ⟨g, cap, cur, e, hb, hg, hnc, hcm, _⟩
  · exact absurd (List.length_eq_zero_iff.1 hz) hl
  · cases e
    have hm := hcm
    unfold maxLen at hm
    exact ⟨g, c, rfl, hc, by omega, hsts⟩
/-- a slice of texts in a row of its own, handed back to be read -/
def RetRow (w : World) (S : List (List UInt8)) (e : Ending) (w' : World) : Prop := ∃ g n c, e = .returned (.slice (some ⟨g, 0, none⟩) n c) ∧ n ≤ c ∧ c ≤ 9223372036854775807 ∧ Sts w' (some ⟨g, 0, none⟩) n S ∧ Later w w'
theorem RetTs.row {w : World} {S : List (List UInt8)} (hl : S ≠ []) (hs : ∀ x ∈ S, x.length ≤ 1048576) {e : Ending} {w' : World} (h : RetTs w S e w') : RetRow w S e w' := by
  obtain ⟨u, rfl, ho, hb⟩ := h
  obtain ⟨g, c, rfl, h1, h2, h3⟩ := ho.rowC hl hs rfl
  exact ⟨g, _, c, rfl, h1, h2, h3, hb⟩
theorem wl_of (p : Prg) (h : wrtB p = true) : 1 ≤ p.lns.length := by
  simp [wrtB, lnsB] at h
  exact h.2.1.2
theorem nmV_mem (M : List Lne) (j : Nat) (h : j < M.length) (x : List UInt8) (hx : x ∈ nmT (lrx M j)) : x ∈ nmV M := by
  unfold nmV
  rw [List.mem_flatMap]
  exact ⟨_, lx_mem M j h, hx⟩
theorem nmV_all (M : List Lne) (S : List (List UInt8)) (h : ∀ j, j < M.length → ∀ x ∈ nmT (lrx M j), x ∈ S) : allIn S (nmV M) = true := by
  refine List.all_eq_true.2 fun x hx => ?_
  obtain ⟨y, hy, hx⟩ := List.mem_flatMap.1 hx
  obtain ⟨j, hj, rfl⟩ := List.mem_iff_getElem.1 hy
  rw [lx_at M j hj] at hx
  exact decide_eq_true (h j hj x hx)
theorem allIn_no (S W : List (List UInt8)) (x : List UInt8) (h : x ∈ W) (hb : x ∉ S) : allIn S W = false := by
  cases h2 : allIn S W with
  | false => rfl
  | true =>
    have := List.all_eq_true.1 h2 x h
    simp [hb] at this
theorem tgs_mem (M : List Lne) (j : Nat) (h : j < M.length) : ltx M j ∈ tgs M := by
  rw [← tgs_at M j h]; exact wx_mem _ j (by rw [tgs_len]; exact h)
theorem tgs_allIn (M : List Lne) (S : List (List UInt8)) (h : ∀ j, j < M.length → ltx M j ∈ S) : allIn S (tgs M) = true :=
  allIn_all S (tgs M) fun j hj => by
    rw [tgs_len] at hj
    rw [tgs_at M j hj]; exact h j hj
/-- what the model's rules say of the fault's number -/
structure Flt (p : Prg) (V : Int) : Prop where
  f1 : ru1 p = false → V = 1
  f2 : ru1 p = true → ru2 p = false → V = 2
  f3 : ru1 p = true → ru2 p = true → ru3 p = false → V = 3
  f4 : ru1 p = true → ru2 p = true → ru3 p = true → ru4 p = false → V = 4
  f5 : ru1 p = true → ru2 p = true → ru3 p = true → ru4 p = true → p.lns.length < p.vrs.length + p.outs.length → V = 5
  f6 : ru1 p = true → ru2 p = true → ru3 p = true → ru4 p = true → ¬ p.lns.length < p.vrs.length + p.outs.length → ru6 p = false → V = 6
  f0 : ru1 p = true → ru2 p = true → ru3 p = true → ru4 p = true → ¬ p.lns.length < p.vrs.length + p.outs.length → ru6 p = true → V = 0
theorem flt_model (p : Prg) : Flt p (fltV p) := by
  have k5 : ru1 p = true → ru3 p = true → ru4 p = true → ru5 p = !decide (p.lns.length < p.vrs.length + p.outs.length) := ru5_len p
  constructor
  · intro h1; simp [fltV, h1]
  · intro h1 h2; simp [fltV, h1, h2]
  · intro h1 h2 h3; simp [fltV, h1, h2, h3]
  · intro h1 h2 h3 h4; simp [fltV, h1, h2, h3, h4]
  · intro h1 h2 h3 h4 h5
    have := k5 h1 h3 h4
    rw [decide_eq_true h5] at this
    simp [fltV, h1, h2, h3, h4, this]
  · intro h1 h2 h3 h4 h5 h6
    have := k5 h1 h3 h4
    rw [decide_eq_false h5] at this
    simp [fltV, h1, h2, h3, h4, this, h6]
  · intro h1 h2 h3 h4 h5 h6
    have := k5 h1 h3 h4
    rw [decide_eq_false h5] at this
    simp [fltV, h1, h2, h3, h4, this, h6]
theorem s_Fault (base : Nat) (v : Value) (p : Prg) (w : World) (hp : PgC base w v p) (hw : wrtB p = true) : Calls Tryd.prog 52 #[v] w fun e w' => e = .returned (.int .i64 (fltV p)) ∧ Later w w' := by
  obtain ⟨s1, s2, s3, s4s, s5⟩ := hp.pgv.shorts
  have hb := wb_of p hw
  have hne : p.ins ++ p.vrs ++ p.outs ≠ [] := by
    intro h
    have h1 := hb.1
    have h2 := congrArg List.length h
    rw [List.length_append, List.length_append, List.length_nil] at h2
    omega
  have hne4 : tgs p.lns ≠ [] := by
    intro h
    have h2 := wl_of p hw
    have := congrArg List.length h
    rw [tgs_len] at this
    simp at this
    rw [this] at h2; simp at h2
  have HNE := Lib.hid hne4
  have AL := Lib.hid (fun W (h : Later w W) => (s_All base v p W (hp.later h) hb).mono fun _ _ q => RetTs.row hne (mem_app2 (mem_app2 s1 s2) s3) q)
  have RD := Lib.hid (fun x W (h : Later w W) => s_Readable v p x W (hp.pgv.later h))
  have RG := Lib.hid (fun W (h : Later w W) => s_Readable v p p.grd W (hp.pgv.later h))
  have FV := Lib.hid (flt_model p)
  have EG : ((tx p.grd).toList.isEmpty) = decide (p.grd = []) := by
    rw [Lib.toList_data]
    show p.grd.isEmpty = _
    cases p.grd <;> simp
  have HR1 : Hid (ru1 p = decide (p.ins ++ p.vrs ++ p.outs).Nodup) := Lib.hid rfl
  have HR2 : Hid (ru2 p = (decide (p.grd = []) || decide (p.grd ∈ p.ins ++ p.vrs))) := Lib.hid rfl
  have HR3 : Hid (ru3 p = allIn (p.vrs ++ p.outs) (tgs p.lns)) := Lib.hid rfl
  have HR4 : Hid (ru4 p = decide (tgs p.lns).Nodup) := Lib.hid rfl
  have HR6 : Hid (ru6 p = allIn (p.ins ++ p.vrs) (nmV p.lns)) := Lib.hid rfl
  have HSH := Lib.hid s4s
  obtain ⟨b1, b2, b3, b4, b5, b6, _⟩ := hb
  have B40 : Hid (∀ j, j < p.lns.length → (lrx p.lns j).length ≤ 40) := Lib.hid (fun j hj => (wb_of p hw).len j hj)
  obtain ⟨a1, c1, a2, c2, a3, c3, a4, c4, rfl, h1, h2, h3, h4, _, _⟩ := hp.pgv
  have I2 := Lib.hid (fun y W (h : Later w W) => s_Index a2 p.vrs.length c2 p.vrs y W (h2.later h))
  have I3 := Lib.hid (fun y W (h : Later w W) => s_Index a3 p.outs.length c3 p.outs y W (h3.later h))
  have P4 := Lib.hid h4
  have HN4 : Hid ((tgs p.lns).length = p.lns.length) := Lib.hid (tgs_len _)
  have HT4 : Hid (∀ k, k < p.lns.length → (tgs p.lns).take (k + 1) = (tgs p.lns).take k ++ [ltx p.lns k]) := Lib.hid (fun k h => tgs_take p.lns k h)
  have HF4 : Hid ((tgs p.lns).take p.lns.length = tgs p.lns) := Lib.hid (List.take_of_length_le (by rw [tgs_len]; exact Nat.le_refl _))
  have HZ4 : Hid (∀ k, k ≤ p.lns.length → ((tgs p.lns).take k).length = k) := Lib.hid (fun k h => by rw [List.length_take, tgs_len]; omega)
  have HM4 : Hid (∀ j, j < p.lns.length → ltx p.lns j ∈ tgs p.lns) := Lib.hid (fun j h => tgs_mem p.lns j h)
  have HA4 : Hid ((∀ j, j < p.lns.length → ltx p.lns j ∈ p.vrs ++ p.outs) → allIn (p.vrs ++ p.outs) (tgs p.lns) = true) := Lib.hid (tgs_allIn p.lns _)
  have HM6 : Hid (∀ j, j < p.lns.length → ∀ x, x ∈ nmT (lrx p.lns j) → x ∈ nmV p.lns) := Lib.hid (fun j h x hx => nmV_mem p.lns j h x hx)
  have HA6 : Hid ((∀ j, j < p.lns.length → ∀ x ∈ nmT (lrx p.lns j), x ∈ p.ins ++ p.vrs) → allIn (p.ins ++ p.vrs) (nmV p.lns) = true) := Lib.hid (nmV_all p.lns _)
  have FX : Hid (∀ V, Flt p V → ((ru1 p = false → V = 1) ∧ (ru1 p = true → ru2 p = false → V = 2) ∧ (ru1 p = true → ru2 p = true → ru3 p = false → V = 3) ∧ (ru1 p = true → ru2 p = true → ru3 p = true → ru4 p = false → V = 4) ∧ (ru1 p = true → ru2 p = true → ru3 p = true → ru4 p = true → p.lns.length < p.vrs.length + p.outs.length → V = 5) ∧ (ru1 p = true → ru2 p = true → ru3 p = true → ru4 p = true → ¬ p.lns.length < p.vrs.length + p.outs.length → ru6 p = false → V = 6) ∧ (ru1 p = true → ru2 p = true → ru3 p = true → ru4 p = true → ¬ p.lns.length < p.vrs.length + p.outs.length → ru6 p = true → V = 0))) := Lib.hid (fun V h => ⟨h.f1, h.f2, h.f3, h.f4, h.f5, h.f6, h.f0⟩)
  have FX := Lib.hid (FX.out _ FV.out)
  clear hp hw hne hne4 h1 h2 h3 h4 s1 s2 s3 s4s s5 FV
  generalize fltV p = V at FX ⊢
  obtain ⟨s0, hs0⟩ : ∃ q, q = tx p.nm := ⟨_, rfl⟩
  obtain ⟨s4, hs4⟩ : ∃ q, q = tx p.grd := ⟨_, rfl⟩
  obtain ⟨n1, hn1⟩ : ∃ q, q = p.ins.length := ⟨_, rfl⟩
  obtain ⟨n2, hn2⟩ : ∃ q, q = p.vrs.length := ⟨_, rfl⟩
  obtain ⟨n3, hn3⟩ : ∃ q, q = p.outs.length := ⟨_, rfl⟩
  obtain ⟨n4, hn4⟩ : ∃ q, q = p.lns.length := ⟨_, rfl⟩
  simp only [← hs0, ← hs4, ← hn1, ← hn2, ← hn3, ← hn4] at AL RD RG EG I2 I3 P4 HN4 HT4 HF4 HZ4 HM4 HA4 HM6 HA6 FX B40 b1 b2 b3 b4 b5 b6 ⊢
  generalize ru1 p = d1 at HR1 FX
  generalize ru2 p = d2 at HR2 FX
  generalize ru3 p = d3 at HR3 FX
  generalize ru4 p = d4 at HR4 FX
  generalize ru6 p = d6 at HR6 FX
  generalize decide (p.grd = []) = g0 at EG HR2
  generalize decide (p.grd ∈ p.ins ++ p.vrs) = g1 at RG HR2
  generalize p.ins ++ p.vrs ++ p.outs = DD at AL HR1
  generalize p.ins ++ p.vrs = IV at *
  have HVO : Hid (∀ x, x ∈ p.vrs ++ p.outs ↔ (0 ≤ ixV p.vrs x ∨ 0 ≤ ixV p.outs x)) := Lib.hid (fun x => by rw [List.mem_append, ixV_mem, ixV_mem])
  generalize p.vrs ++ p.outs = VO at *
  generalize p.vrs = VR at *
  generalize p.outs = OU at *
  generalize p.lns = M at *
  clear hs0 hs4 hn1 hn2 hn3 hn4
  have q0 : (w.alloc (.cells #[.string s0, .slice a1 n1 c1, .slice a2 n2 c2, .slice a3 n3 c3, .string s4, .slice a4 n4 c4] 27)).cell? ⟨w.heap.size, 0, none⟩ = some (.string s0) := by rw [cell_of_row _ _ 0 _ _ (0, 0) (heap_alloc_new w _)]; rfl
  have q1 : (w.alloc (.cells #[.string s0, .slice a1 n1 c1, .slice a2 n2 c2, .slice a3 n3 c3, .string s4, .slice a4 n4 c4] 27)).cell? ⟨w.heap.size, 1, none⟩ = some (.slice a1 n1 c1) := by rw [cell_of_row _ _ 1 _ _ (0, 0) (heap_alloc_new w _)]; rfl
  have q2 : (w.alloc (.cells #[.string s0, .slice a1 n1 c1, .slice a2 n2 c2, .slice a3 n3 c3, .string s4, .slice a4 n4 c4] 27)).cell? ⟨w.heap.size, 2, none⟩ = some (.slice a2 n2 c2) := by rw [cell_of_row _ _ 2 _ _ (0, 0) (heap_alloc_new w _)]; rfl
  have q3 : (w.alloc (.cells #[.string s0, .slice a1 n1 c1, .slice a2 n2 c2, .slice a3 n3 c3, .string s4, .slice a4 n4 c4] 27)).cell? ⟨w.heap.size, 3, none⟩ = some (.slice a3 n3 c3) := by rw [cell_of_row _ _ 3 _ _ (0, 0) (heap_alloc_new w _)]; rfl
  have q4 : (w.alloc (.cells #[.string s0, .slice a1 n1 c1, .slice a2 n2 c2, .slice a3 n3 c3, .string s4, .slice a4 n4 c4] 27)).cell? ⟨w.heap.size, 4, none⟩ = some (.string s4) := by rw [cell_of_row _ _ 4 _ _ (0, 0) (heap_alloc_new w _)]; rfl
  have q5 : (w.alloc (.cells #[.string s0, .slice a1 n1 c1, .slice a2 n2 c2, .slice a3 n3 c3, .string s4, .slice a4 n4 c4] 27)).cell? ⟨w.heap.size, 5, none⟩ = some (.slice a4 n4 c4) := by rw [cell_of_row _ _ 5 _ _ (0, 0) (heap_alloc_new w _)]; rfl
  have hW0 : w.heap.size < (w.alloc (.cells #[.string s0, .slice a1 n1 c1, .slice a2 n2 c2, .slice a3 n3 c3, .string s4, .slice a4 n4 c4] 27)).heap.size := by rw [World.size_alloc]; exact Nat.lt_succ_self _
  have C0 : Hid (∀ W', Later (w.alloc (.cells #[.string s0, .slice a1 n1 c1, .slice a2 n2 c2, .slice a3 n3 c3, .string s4, .slice a4 n4 c4] 27)) W' → W'.cell? ⟨w.heap.size, 0, none⟩ = some (.string s0) ∧ W'.cell? ⟨w.heap.size, 1, none⟩ = some (.slice a1 n1 c1) ∧ W'.cell? ⟨w.heap.size, 2, none⟩ = some (.slice a2 n2 c2) ∧ W'.cell? ⟨w.heap.size, 3, none⟩ = some (.slice a3 n3 c3) ∧ W'.cell? ⟨w.heap.size, 4, none⟩ = some (.string s4) ∧ W'.cell? ⟨w.heap.size, 5, none⟩ = some (.slice a4 n4 c4)) := Lib.hid (fun W' q => ⟨by rw [q.cell (p := ⟨w.heap.size, 0, none⟩) hW0]; exact q0, by rw [q.cell (p := ⟨w.heap.size, 1, none⟩) hW0]; exact q1, by rw [q.cell (p := ⟨w.heap.size, 2, none⟩) hW0]; exact q2, by rw [q.cell (p := ⟨w.heap.size, 3, none⟩) hW0]; exact q3, by rw [q.cell (p := ⟨w.heap.size, 4, none⟩) hW0]; exact q4, by rw [q.cell (p := ⟨w.heap.size, 5, none⟩) hW0]; exact q5⟩)
  have A0 : Hid (Later w (w.alloc (.cells #[.string s0, .slice a1 n1 c1, .slice a2 n2 c2, .slice a3 n3 c3, .string s4, .slice a4 n4 c4] 27))) := Lib.hid ((Later.refl _).alloc _)
  clear hW0
  have hzW : (w.alloc (.cells #[.string s0, .slice a1 n1 c1, .slice a2 n2 c2, .slice a3 n3 c3, .string s4, .slice a4 n4 c4] 27)).heap.size = w.heap.size + 1 := World.size_alloc _ _
  go_enter Tryd.func52, Tryd.ntmps52
  go_wp2_with fail
  generalize (w.alloc (.cells #[.string s0, .slice a1 n1 c1, .slice a2 n2 c2, .slice a3 n3 c3, .string s4, .slice a4 n4 c4] 27)) = W0 at C0 A0 hzW q0 q1 q2 q3 q4 q5 ⊢
  have HZW := Lib.hid hzW
  clear hzW
  refine (AL.out _ A0.out).mono ?_
  rintro e w1 ⟨g, n, c, rfl, hnc, hcm, hs, hb⟩
  have L1 := Lib.hid (show Later W0 w1 from hb)
  have TW := Lib.hid (s_Twice (some ⟨g, 0, none⟩) n c DD w1 hs hnc hcm ⟨g, rfl⟩)
  generalize decide DD.Nodup = dd at TW HR1
  obtain rfl : d1 = dd := HR1.out
  clear hs hb HR1 q0 q1 q2 q3 q4 q5
  go_wp2_with fail
  refine TW.out.mono ?_
  rintro e w2 ⟨rfl, hb⟩
  have L2 := Lib.hid (Later.trans L1.out hb)
  clear hb
  obtain ⟨q0, q1, q2, q3, q4, q5⟩ := C0.out _ L2.out
  cases d1
  · have HV : Hid (V = 1) := Lib.hid (FX.out.1 rfl)
    go_wp2_with fail
    all_goals
      go_ret
      exact ⟨by rw [HV.out]; rfl, A0.out.trans L2.out⟩
  have FX := Lib.hid FX.out.2
  cases g0
  · cases g1
    · have HV : Hid (V = 2) := Lib.hid (FX.out.1 rfl HR2.out)
      go_wp2_with (go_at_call 100; refine (RG.out _ (A0.out.trans L2.out)).mono ?_; rintro e w3 ⟨rfl, hb⟩; have L3 := Lib.hid (Later.trans L2.out hb); obtain ⟨q0, q1, q2, q3, q4, q5⟩ := C0.out _ L3.out; clear hb)
      all_goals
        go_ret
        exact ⟨by rw [HV.out]; rfl, A0.out.trans L3.out⟩
    · have FX := Lib.hid (FX.out.2)
      obtain rfl : d2 = true := HR2.out
      have FX := Lib.hid (And.intro (FX.out.1 rfl rfl) (And.intro (FX.out.2.1 rfl rfl) (And.intro FX.out.2.2.1 FX.out.2.2.2)))
      go_wp2_with (go_at_call 100; refine (RG.out _ (A0.out.trans L2.out)).mono ?_; rintro e w3 ⟨rfl, hb⟩; have L3 := Lib.hid (Later.trans L2.out hb); obtain ⟨q0, q1, q2, q3, q4, q5⟩ := C0.out _ L3.out; clear hb)
      go_loopw [3, 4] (fun s i wr => ∃ k : Nat, k ≤ n4 ∧ i = .int .i64 k ∧ OwnT wr W0.heap.size s ((tgs M).take k) ∧ Later W0 wr ∧ Hid (∀ j, j < k → ltx M j ∈ VO)) (fun _ i _ => n4 - (intOf i).toNat)
      case atStart => exact ⟨0, by omega, rfl, ownT_newN w3 W0.heap.size L3.out.size, L3.out.alloc _, Lib.hid (by intro j h; omega)⟩
      case round =>
        clear q0 q1 q2 q3 q4 q5
        obtain ⟨k, hk, rfl, ho, hb, HI⟩ := hrel
        have L3 := Lib.hid hb
        have O3 := Lib.hid ho
        obtain ⟨q0, q1, q2, q3, q4, q5⟩ := C0.out _ hb
        clear ho
        by_cases hlt : k < n4
        · obtain ⟨b, off, ta, tc, rfl, c0, _, _⟩ := (P4.out.later (A0.out.trans hb)).2.2.1 k hlt
          have HTK := Lib.hid (HT4.out k hlt)
          have hzk := HZ4.out k hk
          have HVK := Lib.hid (HVO.out (ltx M k))
          have J2 := Lib.hid (I2.out (ltx M k) _ (A0.out.trans hb))
          have J3 := Lib.hid (I3.out (ltx M k) _ (A0.out.trans hb))
          have HMK := Lib.hid (HM4.out k hlt)
          have HXK : Hid (ltx M k ∈ VO → ∀ j, j < k + 1 → ltx M j ∈ VO) := Lib.hid (fun h j hj => by
            rcases Nat.lt_or_ge j k with h1 | h1
            · exact HI.out j h1
            · obtain rfl : j = k := by omega
              exact h)
          generalize ixV VR (ltx M k) = r2 at HVK J2
          generalize ixV OU (ltx M k) = r3 at HVK J3
          generalize ltx M k = y at c0 HTK HVK J2 J3 HMK HXK
          obtain ⟨Y, hY⟩ : ∃ Y, Y = tx y := ⟨_, rfl⟩
          rw [← hY] at c0 J2 J3
          have HY := Lib.hid hY
          clear hY hb
          by_cases hin : 0 ≤ r2 ∨ 0 ≤ r3
          · have HX2 := Lib.hid (HXK.out (HVK.out.2 hin))
            rcases (show 0 ≤ r2 ∨ (r2 < 0 ∧ 0 ≤ r3) by omega) with h2 | ⟨h2, h3⟩
            · have e2 : decide (r2 < 0) = false := decide_eq_false (by omega)
              clear hin
              go_wp2_with (first
                | (go_at_call_of 72 a2; refine J2.out.mono ?_; rintro e w' ⟨rfl, rfl⟩)
                | (go_at_call_of 72 a3; refine J3.out.mono ?_; rintro e w' ⟨rfl, rfl⟩)
                | (at_builtin; go_must (rw [HY.out]; refine app1T rfl _ _ rfl W0.heap.size _ _ _ ((tgs M).take k) y (O3.out.later (by repeat (first | (with_reducible exact Later.refl _) | (with_reducible exact Hid.out (by assumption)) | (with_reducible refine Later.alloc ?_ _) | (with_reducible refine Later.setCell ?_ (by simp; omega) _) | (with_reducible refine Later.setCell ?_ (by simp) _) | (with_reducible refine Later.drewN ?_ _) | (with_reducible refine Later.drew ?_) | (with_reducible refine Later.trans ?_ (Hid.out (by assumption)))))) rfl (by first | rfl | (simp only [World.heap_drewN, World.size_alloc]; rfl)) (by omega) (Later.size (by repeat (first | (with_reducible exact Later.refl _) | (with_reducible exact Hid.out (by assumption)) | (with_reducible refine Later.alloc ?_ _) | (with_reducible refine Later.setCell ?_ (by simp; omega) _) | (with_reducible refine Later.setCell ?_ (by simp) _) | (with_reducible refine Later.drewN ?_ _) | (with_reducible refine Later.drew ?_) | (with_reducible refine Later.trans ?_ (Hid.out (by assumption)))))) ?_; intro v6 w6 ho hgr)))
              have O6 := Lib.hid ho
              rw [← HTK.out] at O6
              have L6 : Hid (Later W0 w6) := Lib.hid (Below.grown (show Later W0 _ from (by repeat (first | (with_reducible exact Later.refl _) | (with_reducible exact Hid.out (by assumption)) | (with_reducible refine Later.alloc ?_ _) | (with_reducible refine Later.setCell ?_ (by simp; omega) _) | (with_reducible refine Later.setCell ?_ (by simp) _) | (with_reducible refine Later.drewN ?_ _) | (with_reducible refine Later.drew ?_) | (with_reducible refine Later.trans ?_ (Hid.out (by assumption)))))) hgr (Later.size (by repeat (first | (with_reducible exact Later.refl _) | (with_reducible exact Hid.out (by assumption)) | (with_reducible refine Later.alloc ?_ _) | (with_reducible refine Later.setCell ?_ (by simp; omega) _) | (with_reducible refine Later.setCell ?_ (by simp) _) | (with_reducible refine Later.drewN ?_ _) | (with_reducible refine Later.drew ?_) | (with_reducible refine Later.trans ?_ (Hid.out (by assumption)))))) (fun j hj => (O3.out.lt j hj).1))
              clear ho hgr
              go_roundw
              case rel => exact ⟨k + 1, by omega, by go_num, O6.out, L6.out, HX2⟩
              case measure => simp [intOf]; omega
            · have e2 : decide (r2 < 0) = true := decide_eq_true h2
              have e3 : decide (r3 < 0) = false := decide_eq_false (by omega)
              clear hin
              go_wp2_with (first
                | (go_at_call_of 72 a2; refine J2.out.mono ?_; rintro e w' ⟨rfl, rfl⟩)
                | (go_at_call_of 72 a3; refine J3.out.mono ?_; rintro e w' ⟨rfl, rfl⟩)
                | (at_builtin; go_must (rw [HY.out]; refine app1T rfl _ _ rfl W0.heap.size _ _ _ ((tgs M).take k) y (O3.out.later (by repeat (first | (with_reducible exact Later.refl _) | (with_reducible exact Hid.out (by assumption)) | (with_reducible refine Later.alloc ?_ _) | (with_reducible refine Later.setCell ?_ (by simp; omega) _) | (with_reducible refine Later.setCell ?_ (by simp) _) | (with_reducible refine Later.drewN ?_ _) | (with_reducible refine Later.drew ?_) | (with_reducible refine Later.trans ?_ (Hid.out (by assumption)))))) rfl (by first | rfl | (simp only [World.heap_drewN, World.size_alloc]; rfl)) (by omega) (Later.size (by repeat (first | (with_reducible exact Later.refl _) | (with_reducible exact Hid.out (by assumption)) | (with_reducible refine Later.alloc ?_ _) | (with_reducible refine Later.setCell ?_ (by simp; omega) _) | (with_reducible refine Later.setCell ?_ (by simp) _) | (with_reducible refine Later.drewN ?_ _) | (with_reducible refine Later.drew ?_) | (with_reducible refine Later.trans ?_ (Hid.out (by assumption)))))) ?_; intro v6 w6 ho hgr)))
              have O6 := Lib.hid ho
              rw [← HTK.out] at O6
              have L6 : Hid (Later W0 w6) := Lib.hid (Below.grown (show Later W0 _ from (by repeat (first | (with_reducible exact Later.refl _) | (with_reducible exact Hid.out (by assumption)) | (with_reducible refine Later.alloc ?_ _) | (with_reducible refine Later.setCell ?_ (by simp; omega) _) | (with_reducible refine Later.setCell ?_ (by simp) _) | (with_reducible refine Later.drewN ?_ _) | (with_reducible refine Later.drew ?_) | (with_reducible refine Later.trans ?_ (Hid.out (by assumption)))))) hgr (Later.size (by repeat (first | (with_reducible exact Later.refl _) | (with_reducible exact Hid.out (by assumption)) | (with_reducible refine Later.alloc ?_ _) | (with_reducible refine Later.setCell ?_ (by simp; omega) _) | (with_reducible refine Later.setCell ?_ (by simp) _) | (with_reducible refine Later.drewN ?_ _) | (with_reducible refine Later.drew ?_) | (with_reducible refine Later.trans ?_ (Hid.out (by assumption)))))) (fun j hj => (O3.out.lt j hj).1))
              clear ho hgr
              go_roundw
              case rel => exact ⟨k + 1, by omega, by go_num, O6.out, L6.out, HX2⟩
              case measure => simp [intOf]; omega
          · have HD3 : Hid (d3 = false) := Lib.hid (by rw [HR3.out]; exact allIn_no VO (tgs M) y HMK.out (fun h => hin (HVK.out.1 h)))
            have HV : Hid (V = 3) := Lib.hid (FX.out.1 HD3.out)
            have e2 : decide (r2 < 0) = true := decide_eq_true (by omega)
            have e3 : decide (r3 < 0) = true := decide_eq_true (by omega)
            clear hin
            go_wp2_with (first
              | (go_at_call_of 72 a2; refine J2.out.mono ?_; rintro e w' ⟨rfl, rfl⟩)
              | (go_at_call_of 72 a3; refine J3.out.mono ?_; rintro e w' ⟨rfl, rfl⟩))
            all_goals
              go_ret
              exact ⟨by rw [HV.out]; rfl, A0.out.trans L3.out⟩
        · obtain rfl : k = n4 := by omega
          have HD3 : Hid (d3 = true) := Lib.hid (by rw [HR3.out]; exact HA4.out HI.out)
          obtain rfl : d3 = true := HD3.out
          have FX := Lib.hid FX.out.2
          have O4 := Lib.hid O3.out
          rw [HF4.out] at O4
          obtain ⟨g4, c4', rfl, hnc4, hcm4, hs4'⟩ := O4.out.rowC HNE.out HSH.out HN4.out
          have TW := Lib.hid (s_Twice (some ⟨g4, 0, none⟩) k c4' (tgs M) _ hs4' hnc4 hcm4 ⟨g4, rfl⟩)
          generalize decide (tgs M).Nodup = dd at TW HR4
          obtain rfl : d4 = dd := HR4.out
          clear hs4' hb HR4 O3 O4 HI HZ4 HT4
          go_wp2_with fail
          refine TW.out.mono ?_
          rintro e w7 ⟨rfl, hb⟩
          have L7 := Lib.hid (Later.trans L3.out hb)
          obtain ⟨q0, q1, q2, q3, q4, q5⟩ := C0.out _ L7.out
          clear hb
          cases d4
          · have HV : Hid (V = 4) := Lib.hid (FX.out.1 (by first | rfl | trivial) (by first | rfl | trivial))
            go_wp2_with fail
            all_goals
              go_ret
              exact ⟨by rw [HV.out]; rfl, A0.out.trans L7.out⟩
          have FX := Lib.hid FX.out.2
          by_cases h5 : k < n2 + n3
          · have HV : Hid (V = 5) := Lib.hid (FX.out.1 (by first | rfl | trivial) (by first | rfl | trivial) (by first | rfl | trivial) (by first | rfl | trivial) h5)
            have e5 : decide ((k : Int) < (n2 : Int) + (n3 : Int)) = true := decide_eq_true (by omega)
            go_wp2_with fail
            all_goals
              go_ret
              exact ⟨by rw [HV.out]; rfl, A0.out.trans L7.out⟩
          have HV6 : Hid (d6 = false → V = 6) := Lib.hid (FX.out.2.1 (by first | rfl | trivial) (by first | rfl | trivial) (by first | rfl | trivial) (by first | rfl | trivial) h5)
          have HV0 : Hid (d6 = true → V = 0) := Lib.hid (FX.out.2.2 (by first | rfl | trivial) (by first | rfl | trivial) (by first | rfl | trivial) (by first | rfl | trivial) h5)
          have e5 : decide ((k : Int) < (n2 : Int) + (n3 : Int)) = false := decide_eq_false (by omega)
          clear h5 TW hnc4 hcm4
          go_wp2_with fail
          clear e5
          go_loopw [6] (fun i w8 => ∃ u : Nat, u ≤ k ∧ i = .int .i64 u ∧ Later W0 w8 ∧ Hid (∀ j, j < u → ∀ x ∈ nmT (lrx M j), x ∈ IV)) (fun i _ => k - (intOf i).toNat)
          case atStart => exact ⟨0, by omega, rfl, L7.out, Lib.hid (by intro j h; omega)⟩
          case round =>
            clear q0 q1 q2 q3 q4 q5
            obtain ⟨u, hu, rfl, hb, HI⟩ := hrel
            have L8 := Lib.hid hb
            obtain ⟨q0, q1, q2, q3, q4, q5⟩ := C0.out _ hb
            by_cases hltu : u < k
            · have h40 := B40.out u hltu
              obtain ⟨b, off, ta, tc, rfl, c00, c01, c2⟩ := P4.out.2.2.1 u hltu
              have HC0 : Hid (∀ W', Later W0 W' → W'.cell? ⟨b, off + u * 2 + 1, none⟩ = some (.slice ta (lrx M u).length tc)) := Lib.hid (fun W' h => by rw [(A0.out.trans h).cell (p := ⟨b, off + u * 2 + 1, none⟩) (cell_lt c01)]; exact c01)
              have HS := Lib.hid c2
              have HMU := Lib.hid (HM6.out u hltu)
              have HXU : Hid ((∀ x ∈ nmT (lrx M u), x ∈ IV) → ∀ j, j < u + 1 → ∀ x ∈ nmT (lrx M j), x ∈ IV) := Lib.hid (fun h j hj => by
                rcases Nat.lt_or_ge j u with h1 | h1
                · exact HI.out j h1
                · obtain rfl : j = u := by omega
                  exact h)
              generalize lrx M u = L at *
              have HJ := Lib.hid (fun j h => nmT_take L j h)
              have HLF : Hid (nmT (L.take L.length) = nmT L) := Lib.hid (by rw [List.take_length])
              have HSUB : Hid (∀ j, j < L.length → rkx L j = 1 → rsx L j ∈ nmT L) := Lib.hid (fun j hj hk => by
                unfold nmT
                exact List.mem_map.2 ⟨_, List.mem_filter.2 ⟨rk_mem L j hj, by simp [hk]⟩, rfl⟩)
              obtain ⟨q, hq⟩ : ∃ q, q = L.length := ⟨_, rfl⟩
              rw [← hq] at HC0 h40 HS HJ HLF HSUB
              clear c00 c01 c2 hb hq
              go_wp2_with fail
              go_loopw [7] (fun i w9 => ∃ j : Nat, j ≤ q ∧ i = .int .i64 j ∧ Later W0 w9 ∧ Hid (∀ x ∈ nmT (L.take j), x ∈ IV)) (fun i _ => q - (intOf i).toNat)
              case atStart => exact ⟨0, by omega, rfl, L8.out, Lib.hid (by intro x h; simp [nmT] at h)⟩
              case round =>
                clear q0 q1 q2 q3 q4 q5
                obtain ⟨j, hj, rfl, hb, HK⟩ := hrel
                have L9 := Lib.hid hb
                obtain ⟨q0, q1, q2, q3, q4, q5⟩ := C0.out _ hb
                have cT := HC0.out _ hb
                by_cases hltj : j < q
                · obtain ⟨b2, off2, rfl, d0, d1', d2'⟩ := (HS.out.later (A0.out.trans hb)).2.2.1 j hltj
                  have HJ2 := Lib.hid (HJ.out j hltj)
                  have HSU := Lib.hid (HSUB.out j hltj)
                  have RY := Lib.hid (RD.out (rsx L j))
                  obtain ⟨y, hy⟩ : ∃ y, y = rsx L j := ⟨_, rfl⟩
                  rw [← hy] at d1' HJ2 HSU RY
                  obtain ⟨Y, hY⟩ : ∃ Y, Y = tx y := ⟨_, rfl⟩
                  rw [← hY] at d1' RY
                  have HYI : Hid (decide (y ∈ IV) = decide (y ∈ IV)) := Lib.hid rfl
                  obtain ⟨gy, hgy⟩ : ∃ gy, gy = decide (y ∈ IV) := ⟨_, rfl⟩
                  rw [← hgy] at RY
                  have HGY := Lib.hid hgy
                  generalize rkx L j = kd at d0 HJ2 HSU
                  generalize rnx L j = nb at d2'
                  have hzw : w.heap.size < _ := Nat.lt_of_lt_of_le (show w.heap.size < W0.heap.size by rw [HZW.out]; exact Nat.lt_succ_self _) L9.out.size
                  clear hy hY hb hgy HYI
                  by_cases he : kd = 1
                  · subst he
                    have HJ3 : Hid (nmT (L.take (j + 1)) = nmT (L.take j) ++ [y]) := Lib.hid (by have := HJ2.out; rw [if_pos rfl] at this; exact this)
                    cases gy
                    · have HV : Hid (V = 6) := Lib.hid (HV6.out (by rw [HR6.out]; exact allIn_no IV (nmV M) y (HMU.out y (HSU.out rfl)) (by have := HGY.out; intro h; rw [decide_eq_true h] at this; cases this)))
                      go_wp2_with (go_at_call 100; refine (RY.out _ (A0.out.trans (by repeat (first | (with_reducible exact Later.refl _) | (with_reducible exact Hid.out (by assumption)) | (with_reducible refine Later.alloc ?_ _) | (with_reducible refine Later.setCell ?_ (by simp; omega) _) | (with_reducible refine Later.setCell ?_ (by simp) _) | (with_reducible refine Later.drewN ?_ _) | (with_reducible refine Later.drew ?_) | (with_reducible refine Later.trans ?_ (Hid.out (by assumption))))))).mono ?_; rintro e w' ⟨rfl, hb⟩; have H10 := Lib.hid hb; clear hb)
                      all_goals
                        go_ret
                        exact ⟨by rw [HV.out]; rfl, A0.out.trans (by repeat (first | (with_reducible exact Later.refl _) | (with_reducible exact Hid.out (by assumption)) | (with_reducible refine Later.alloc ?_ _) | (with_reducible refine Later.setCell ?_ (by simp; omega) _) | (with_reducible refine Later.setCell ?_ (by simp) _) | (with_reducible refine Later.drewN ?_ _) | (with_reducible refine Later.drew ?_) | (with_reducible refine Later.trans ?_ (Hid.out (by assumption)))))⟩
                    · have HK2 : Hid (∀ x ∈ nmT (L.take (j + 1)), x ∈ IV) := Lib.hid (by
                        rw [HJ3.out]
                        intro x hx
                        rcases List.mem_append.1 hx with hx | hx
                        · exact HK.out x hx
                        · simp at hx; rw [hx]
                          exact of_decide_eq_true HGY.out.symm)
                      go_wp2_with (go_at_call 100; refine (RY.out _ (A0.out.trans (by repeat (first | (with_reducible exact Later.refl _) | (with_reducible exact Hid.out (by assumption)) | (with_reducible refine Later.alloc ?_ _) | (with_reducible refine Later.setCell ?_ (by simp; omega) _) | (with_reducible refine Later.setCell ?_ (by simp) _) | (with_reducible refine Later.drewN ?_ _) | (with_reducible refine Later.drew ?_) | (with_reducible refine Later.trans ?_ (Hid.out (by assumption))))))).mono ?_; rintro e w' ⟨rfl, hb⟩; have H10 := Lib.hid hb; clear hb)
                      go_roundw
                      case rel => exact ⟨j + 1, by omega, by go_num, (by repeat (first | (with_reducible exact Later.refl _) | (with_reducible exact Hid.out (by assumption)) | (with_reducible refine Later.alloc ?_ _) | (with_reducible refine Later.setCell ?_ (by simp; omega) _) | (with_reducible refine Later.setCell ?_ (by simp) _) | (with_reducible refine Later.drewN ?_ _) | (with_reducible refine Later.drew ?_) | (with_reducible refine Later.trans ?_ (Hid.out (by assumption))))), HK2⟩
                      case measure => simp [intOf]; omega
                  · have HJ3 : Hid (nmT (L.take (j + 1)) = nmT (L.take j)) := Lib.hid (by have := HJ2.out; rw [if_neg he] at this; exact this)
                    have hne : (kd == 1) = false := by simpa using he
                    clear he
                    go_wp2_with fail
                    go_roundw
                    case rel => exact ⟨j + 1, by omega, by go_num, (by repeat (first | (with_reducible exact Later.refl _) | (with_reducible exact Hid.out (by assumption)) | (with_reducible refine Later.alloc ?_ _) | (with_reducible refine Later.setCell ?_ (by simp; omega) _) | (with_reducible refine Later.setCell ?_ (by simp) _) | (with_reducible refine Later.drewN ?_ _) | (with_reducible refine Later.drew ?_) | (with_reducible refine Later.trans ?_ (Hid.out (by assumption))))), Lib.hid (by rw [HJ3.out]; exact HK.out)⟩
                    case measure => simp [intOf]; omega
                · obtain rfl : j = q := by omega
                  have HI2 := Lib.hid (HXU.out (by have := HK.out; rw [HLF.out] at this; exact this))
                  clear hb
                  go_wp2_with fail
                  go_roundw
                  case rel => exact ⟨u + 1, by omega, by go_num, L9.out, HI2⟩
                  case measure => simp [intOf]; omega
            · obtain rfl : u = k := by omega
              have HV : Hid (V = 0) := Lib.hid (HV0.out (by rw [HR6.out]; exact HA6.out HI.out))
              clear hb
              go_wp2_with fail
              all_goals
                go_ret
                exact ⟨by rw [HV.out]; rfl, A0.out.trans L8.out⟩
  · have FX := Lib.hid (FX.out.2)
    obtain rfl : d2 = true := HR2.out
    have FX := Lib.hid (And.intro (FX.out.1 rfl rfl) (And.intro (FX.out.2.1 rfl rfl) (And.intro FX.out.2.2.1 FX.out.2.2.2)))
    go_wp2_with fail
    go_loopw [3, 4] (fun s i wr => ∃ k : Nat, k ≤ n4 ∧ i = .int .i64 k ∧ OwnT wr W0.heap.size s ((tgs M).take k) ∧ Later W0 wr ∧ Hid (∀ j, j < k → ltx M j ∈ VO)) (fun _ i _ => n4 - (intOf i).toNat)
    case atStart => exact ⟨0, by omega, rfl, ownT_newN w2 W0.heap.size L2.out.size, L2.out.alloc _, Lib.hid (by intro j h; omega)⟩
    case round =>
      clear q0 q1 q2 q3 q4 q5
      obtain ⟨k, hk, rfl, ho, hb, HI⟩ := hrel
      have L3 := Lib.hid hb
      have O3 := Lib.hid ho
      obtain ⟨q0, q1, q2, q3, q4, q5⟩ := C0.out _ hb
      clear ho
      by_cases hlt : k < n4
      · obtain ⟨b, off, ta, tc, rfl, c0, _, _⟩ := (P4.out.later (A0.out.trans hb)).2.2.1 k hlt
        have HTK := Lib.hid (HT4.out k hlt)
        have hzk := HZ4.out k hk
        have HVK := Lib.hid (HVO.out (ltx M k))
        have J2 := Lib.hid (I2.out (ltx M k) _ (A0.out.trans hb))
        have J3 := Lib.hid (I3.out (ltx M k) _ (A0.out.trans hb))
        have HMK := Lib.hid (HM4.out k hlt)
        have HXK : Hid (ltx M k ∈ VO → ∀ j, j < k + 1 → ltx M j ∈ VO) := Lib.hid (fun h j hj => by
          rcases Nat.lt_or_ge j k with h1 | h1
          · exact HI.out j h1
          · obtain rfl : j = k := by omega
            exact h)
        generalize ixV VR (ltx M k) = r2 at HVK J2
        generalize ixV OU (ltx M k) = r3 at HVK J3
        generalize ltx M k = y at c0 HTK HVK J2 J3 HMK HXK
        obtain ⟨Y, hY⟩ : ∃ Y, Y = tx y := ⟨_, rfl⟩
        rw [← hY] at c0 J2 J3
        have HY := Lib.hid hY
        clear hY hb
        by_cases hin : 0 ≤ r2 ∨ 0 ≤ r3
        · have HX2 := Lib.hid (HXK.out (HVK.out.2 hin))
          rcases (show 0 ≤ r2 ∨ (r2 < 0 ∧ 0 ≤ r3) by omega) with h2 | ⟨h2, h3⟩
          · have e2 : decide (r2 < 0) = false := decide_eq_false (by omega)
            clear hin
            go_wp2_with (first
              | (go_at_call_of 72 a2; refine J2.out.mono ?_; rintro e w' ⟨rfl, rfl⟩)
              | (go_at_call_of 72 a3; refine J3.out.mono ?_; rintro e w' ⟨rfl, rfl⟩)
              | (at_builtin; go_must (rw [HY.out]; refine app1T rfl _ _ rfl W0.heap.size _ _ _ ((tgs M).take k) y (O3.out.later (by repeat (first | (with_reducible exact Later.refl _) | (with_reducible exact Hid.out (by assumption)) | (with_reducible refine Later.alloc ?_ _) | (with_reducible refine Later.setCell ?_ (by simp; omega) _) | (with_reducible refine Later.setCell ?_ (by simp) _) | (with_reducible refine Later.drewN ?_ _) | (with_reducible refine Later.drew ?_) | (with_reducible refine Later.trans ?_ (Hid.out (by assumption)))))) rfl (by first | rfl | (simp only [World.heap_drewN, World.size_alloc]; rfl)) (by omega) (Later.size (by repeat (first | (with_reducible exact Later.refl _) | (with_reducible exact Hid.out (by assumption)) | (with_reducible refine Later.alloc ?_ _) | (with_reducible refine Later.setCell ?_ (by simp; omega) _) | (with_reducible refine Later.setCell ?_ (by simp) _) | (with_reducible refine Later.drewN ?_ _) | (with_reducible refine Later.drew ?_) | (with_reducible refine Later.trans ?_ (Hid.out (by assumption)))))) ?_; intro v6 w6 ho hgr)))
            have O6 := Lib.hid ho
            rw [← HTK.out] at O6
            have L6 : Hid (Later W0 w6) := Lib.hid (Below.grown (show Later W0 _ from (by repeat (first | (with_reducible exact Later.refl _) | (with_reducible exact Hid.out (by assumption)) | (with_reducible refine Later.alloc ?_ _) | (with_reducible refine Later.setCell ?_ (by simp; omega) _) | (with_reducible refine Later.setCell ?_ (by simp) _) | (with_reducible refine Later.drewN ?_ _) | (with_reducible refine Later.drew ?_) | (with_reducible refine Later.trans ?_ (Hid.out (by assumption)))))) hgr (Later.size (by repeat (first | (with_reducible exact Later.refl _) | (with_reducible exact Hid.out (by assumption)) | (with_reducible refine Later.alloc ?_ _) | (with_reducible refine Later.setCell ?_ (by simp; omega) _) | (with_reducible refine Later.setCell ?_ (by simp) _) | (with_reducible refine Later.drewN ?_ _) | (with_reducible refine Later.drew ?_) | (with_reducible refine Later.trans ?_ (Hid.out (by assumption)))))) (fun j hj => (O3.out.lt j hj).1))
            clear ho hgr
            go_roundw
            case rel => exact ⟨k + 1, by omega, by go_num, O6.out, L6.out, HX2⟩
            case measure => simp [intOf]; omega
          · have e2 : decide (r2 < 0) = true := decide_eq_true h2
            have e3 : decide (r3 < 0) = false := decide_eq_false (by omega)
            clear hin
            go_wp2_with (first
              | (go_at_call_of 72 a2; refine J2.out.mono ?_; rintro e w' ⟨rfl, rfl⟩)
              | (go_at_call_of 72 a3; refine J3.out.mono ?_; rintro e w' ⟨rfl, rfl⟩)
              | (at_builtin; go_must (rw [HY.out]; refine app1T rfl _ _ rfl W0.heap.size _ _ _ ((tgs M).take k) y (O3.out.later (by repeat (first | (with_reducible exact Later.refl _) | (with_reducible exact Hid.out (by assumption)) | (with_reducible refine Later.alloc ?_ _) | (with_reducible refine Later.setCell ?_ (by simp; omega) _) | (with_reducible refine Later.setCell ?_ (by simp) _) | (with_reducible refine Later.drewN ?_ _) | (with_reducible refine Later.drew ?_) | (with_reducible refine Later.trans ?_ (Hid.out (by assumption)))))) rfl (by first | rfl | (simp only [World.heap_drewN, World.size_alloc]; rfl)) (by omega) (Later.size (by repeat (first | (with_reducible exact Later.refl _) | (with_reducible exact Hid.out (by assumption)) | (with_reducible refine Later.alloc ?_ _) | (with_reducible refine Later.setCell ?_ (by simp; omega) _) | (with_reducible refine Later.setCell ?_ (by simp) _) | (with_reducible refine Later.drewN ?_ _) | (with_reducible refine Later.drew ?_) | (with_reducible refine Later.trans ?_ (Hid.out (by assumption)))))) ?_; intro v6 w6 ho hgr)))
            have O6 := Lib.hid ho
            rw [← HTK.out] at O6
            have L6 : Hid (Later W0 w6) := Lib.hid (Below.grown (show Later W0 _ from (by repeat (first | (with_reducible exact Later.refl _) | (with_reducible exact Hid.out (by assumption)) | (with_reducible refine Later.alloc ?_ _) | (with_reducible refine Later.setCell ?_ (by simp; omega) _) | (with_reducible refine Later.setCell ?_ (by simp) _) | (with_reducible refine Later.drewN ?_ _) | (with_reducible refine Later.drew ?_) | (with_reducible refine Later.trans ?_ (Hid.out (by assumption)))))) hgr (Later.size (by repeat (first | (with_reducible exact Later.refl _) | (with_reducible exact Hid.out (by assumption)) | (with_reducible refine Later.alloc ?_ _) | (with_reducible refine Later.setCell ?_ (by simp; omega) _) | (with_reducible refine Later.setCell ?_ (by simp) _) | (with_reducible refine Later.drewN ?_ _) | (with_reducible refine Later.drew ?_) | (with_reducible refine Later.trans ?_ (Hid.out (by assumption)))))) (fun j hj => (O3.out.lt j hj).1))
            clear ho hgr
            go_roundw
            case rel => exact ⟨k + 1, by omega, by go_num, O6.out, L6.out, HX2⟩
            case measure => simp [intOf]; omega
        · have HD3 : Hid (d3 = false) := Lib.hid (by rw [HR3.out]; exact allIn_no VO (tgs M) y HMK.out (fun h => hin (HVK.out.1 h)))
          have HV : Hid (V = 3) := Lib.hid (FX.out.1 HD3.out)
          have e2 : decide (r2 < 0) = true := decide_eq_true (by omega)
          have e3 : decide (r3 < 0) = true := decide_eq_true (by omega)
          clear hin
          go_wp2_with (first
            | (go_at_call_of 72 a2; refine J2.out.mono ?_; rintro e w' ⟨rfl, rfl⟩)
            | (go_at_call_of 72 a3; refine J3.out.mono ?_; rintro e w' ⟨rfl, rfl⟩))
          all_goals
            go_ret
            exact ⟨by rw [HV.out]; rfl, A0.out.trans L3.out⟩
      · obtain rfl : k = n4 := by omega
        have HD3 : Hid (d3 = true) := Lib.hid (by rw [HR3.out]; exact HA4.out HI.out)
        obtain rfl : d3 = true := HD3.out
        have FX := Lib.hid FX.out.2
        have O4 := Lib.hid O3.out
        rw [HF4.out] at O4
        obtain ⟨g4, c4', rfl, hnc4, hcm4, hs4'⟩ := O4.out.rowC HNE.out HSH.out HN4.out
        have TW := Lib.hid (s_Twice (some ⟨g4, 0, none⟩) k c4' (tgs M) _ hs4' hnc4 hcm4 ⟨g4, rfl⟩)
        generalize decide (tgs M).Nodup = dd at TW HR4
        obtain rfl : d4 = dd := HR4.out
        clear hs4' hb HR4 O3 O4 HI HZ4 HT4
        go_wp2_with fail
        refine TW.out.mono ?_
        rintro e w7 ⟨rfl, hb⟩
        have L7 := Lib.hid (Later.trans L3.out hb)
        obtain ⟨q0, q1, q2, q3, q4, q5⟩ := C0.out _ L7.out
        clear hb
        cases d4
        · have HV : Hid (V = 4) := Lib.hid (FX.out.1 (by first | rfl | trivial) (by first | rfl | trivial))
          go_wp2_with fail
          all_goals
            go_ret
            exact ⟨by rw [HV.out]; rfl, A0.out.trans L7.out⟩
        have FX := Lib.hid FX.out.2
        by_cases h5 : k < n2 + n3
        · have HV : Hid (V = 5) := Lib.hid (FX.out.1 (by first | rfl | trivial) (by first | rfl | trivial) (by first | rfl | trivial) (by first | rfl | trivial) h5)
          have e5 : decide ((k : Int) < (n2 : Int) + (n3 : Int)) = true := decide_eq_true (by omega)
          go_wp2_with fail
          all_goals
            go_ret
            exact ⟨by rw [HV.out]; rfl, A0.out.trans L7.out⟩
        have HV6 : Hid (d6 = false → V = 6) := Lib.hid (FX.out.2.1 (by first | rfl | trivial) (by first | rfl | trivial) (by first | rfl | trivial) (by first | rfl | trivial) h5)
        have HV0 : Hid (d6 = true → V = 0) := Lib.hid (FX.out.2.2 (by first | rfl | trivial) (by first | rfl | trivial) (by first | rfl | trivial) (by first | rfl | trivial) h5)
        have e5 : decide ((k : Int) < (n2 : Int) + (n3 : Int)) = false := decide_eq_false (by omega)
        clear h5 TW hnc4 hcm4
        go_wp2_with fail
        clear e5
        go_loopw [6] (fun i w8 => ∃ u : Nat, u ≤ k ∧ i = .int .i64 u ∧ Later W0 w8 ∧ Hid (∀ j, j < u → ∀ x ∈ nmT (lrx M j), x ∈ IV)) (fun i _ => k - (intOf i).toNat)
        case atStart => exact ⟨0, by omega, rfl, L7.out, Lib.hid (by intro j h; omega)⟩
        case round =>
          clear q0 q1 q2 q3 q4 q5
          obtain ⟨u, hu, rfl, hb, HI⟩ := hrel
          have L8 := Lib.hid hb
          obtain ⟨q0, q1, q2, q3, q4, q5⟩ := C0.out _ hb
          by_cases hltu : u < k
          · have h40 := B40.out u hltu
            obtain ⟨b, off, ta, tc, rfl, c00, c01, c2⟩ := P4.out.2.2.1 u hltu
            have HC0 : Hid (∀ W', Later W0 W' → W'.cell? ⟨b, off + u * 2 + 1, none⟩ = some (.slice ta (lrx M u).length tc)) := Lib.hid (fun W' h => by rw [(A0.out.trans h).cell (p := ⟨b, off + u * 2 + 1, none⟩) (cell_lt c01)]; exact c01)
            have HS := Lib.hid c2
            have HMU := Lib.hid (HM6.out u hltu)
            have HXU : Hid ((∀ x ∈ nmT (lrx M u), x ∈ IV) → ∀ j, j < u + 1 → ∀ x ∈ nmT (lrx M j), x ∈ IV) := Lib.hid (fun h j hj => by
              rcases Nat.lt_or_ge j u with h1 | h1
              · exact HI.out j h1
              · obtain rfl : j = u := by omega
                exact h)
            generalize lrx M u = L at *
            have HJ := Lib.hid (fun j h => nmT_take L j h)
            have HLF : Hid (nmT (L.take L.length) = nmT L) := Lib.hid (by rw [List.take_length])
            have HSUB : Hid (∀ j, j < L.length → rkx L j = 1 → rsx L j ∈ nmT L) := Lib.hid (fun j hj hk => by
              unfold nmT
              exact List.mem_map.2 ⟨_, List.mem_filter.2 ⟨rk_mem L j hj, by simp [hk]⟩, rfl⟩)
            obtain ⟨q, hq⟩ : ∃ q, q = L.length := ⟨_, rfl⟩
            rw [← hq] at HC0 h40 HS HJ HLF HSUB
            clear c00 c01 c2 hb hq
            go_wp2_with fail
            go_loopw [7] (fun i w9 => ∃ j : Nat, j ≤ q ∧ i = .int .i64 j ∧ Later W0 w9 ∧ Hid (∀ x ∈ nmT (L.take j), x ∈ IV)) (fun i _ => q - (intOf i).toNat)
            case atStart => exact ⟨0, by omega, rfl, L8.out, Lib.hid (by intro x h; simp [nmT] at h)⟩
            case round =>
              clear q0 q1 q2 q3 q4 q5
              obtain ⟨j, hj, rfl, hb, HK⟩ := hrel
              have L9 := Lib.hid hb
              obtain ⟨q0, q1, q2, q3, q4, q5⟩ := C0.out _ hb
              have cT := HC0.out _ hb
              by_cases hltj : j < q
              · obtain ⟨b2, off2, rfl, d0, d1', d2'⟩ := (HS.out.later (A0.out.trans hb)).2.2.1 j hltj
                have HJ2 := Lib.hid (HJ.out j hltj)
                have HSU := Lib.hid (HSUB.out j hltj)
                have RY := Lib.hid (RD.out (rsx L j))
                obtain ⟨y, hy⟩ : ∃ y, y = rsx L j := ⟨_, rfl⟩
                rw [← hy] at d1' HJ2 HSU RY
                obtain ⟨Y, hY⟩ : ∃ Y, Y = tx y := ⟨_, rfl⟩
                rw [← hY] at d1' RY
                have HYI : Hid (decide (y ∈ IV) = decide (y ∈ IV)) := Lib.hid rfl
                obtain ⟨gy, hgy⟩ : ∃ gy, gy = decide (y ∈ IV) := ⟨_, rfl⟩
                rw [← hgy] at RY
                have HGY := Lib.hid hgy
                generalize rkx L j = kd at d0 HJ2 HSU
                generalize rnx L j = nb at d2'
                have hzw : w.heap.size < _ := Nat.lt_of_lt_of_le (show w.heap.size < W0.heap.size by rw [HZW.out]; exact Nat.lt_succ_self _) L9.out.size
                clear hy hY hb hgy HYI
                by_cases he : kd = 1
                · subst he
                  have HJ3 : Hid (nmT (L.take (j + 1)) = nmT (L.take j) ++ [y]) := Lib.hid (by have := HJ2.out; rw [if_pos rfl] at this; exact this)
                  cases gy
                  · have HV : Hid (V = 6) := Lib.hid (HV6.out (by rw [HR6.out]; exact allIn_no IV (nmV M) y (HMU.out y (HSU.out rfl)) (by have := HGY.out; intro h; rw [decide_eq_true h] at this; cases this)))
                    go_wp2_with (go_at_call 100; refine (RY.out _ (A0.out.trans (by repeat (first | (with_reducible exact Later.refl _) | (with_reducible exact Hid.out (by assumption)) | (with_reducible refine Later.alloc ?_ _) | (with_reducible refine Later.setCell ?_ (by simp; omega) _) | (with_reducible refine Later.setCell ?_ (by simp) _) | (with_reducible refine Later.drewN ?_ _) | (with_reducible refine Later.drew ?_) | (with_reducible refine Later.trans ?_ (Hid.out (by assumption))))))).mono ?_; rintro e w' ⟨rfl, hb⟩; have H10 := Lib.hid hb; clear hb)
                    all_goals
                      go_ret
                      exact ⟨by rw [HV.out]; rfl, A0.out.trans (by repeat (first | (with_reducible exact Later.refl _) | (with_reducible exact Hid.out (by assumption)) | (with_reducible refine Later.alloc ?_ _) | (with_reducible refine Later.setCell ?_ (by simp; omega) _) | (with_reducible refine Later.setCell ?_ (by simp) _) | (with_reducible refine Later.drewN ?_ _) | (with_reducible refine Later.drew ?_) | (with_reducible refine Later.trans ?_ (Hid.out (by assumption)))))⟩
                  · have HK2 : Hid (∀ x ∈ nmT (L.take (j + 1)), x ∈ IV) := Lib.hid (by
                      rw [HJ3.out]
                      intro x hx
                      rcases List.mem_append.1 hx with hx | hx
                      · exact HK.out x hx
                      · simp at hx; rw [hx]
                        exact of_decide_eq_true HGY.out.symm)
                    go_wp2_with (go_at_call 100; refine (RY.out _ (A0.out.trans (by repeat (first | (with_reducible exact Later.refl _) | (with_reducible exact Hid.out (by assumption)) | (with_reducible refine Later.alloc ?_ _) | (with_reducible refine Later.setCell ?_ (by simp; omega) _) | (with_reducible refine Later.setCell ?_ (by simp) _) | (with_reducible refine Later.drewN ?_ _) | (with_reducible refine Later.drew ?_) | (with_reducible refine Later.trans ?_ (Hid.out (by assumption))))))).mono ?_; rintro e w' ⟨rfl, hb⟩; have H10 := Lib.hid hb; clear hb)
                    go_roundw
                    case rel => exact ⟨j + 1, by omega, by go_num, (by repeat (first | (with_reducible exact Later.refl _) | (with_reducible exact Hid.out (by assumption)) | (with_reducible refine Later.alloc ?_ _) | (with_reducible refine Later.setCell ?_ (by simp; omega) _) | (with_reducible refine Later.setCell ?_ (by simp) _) | (with_reducible refine Later.drewN ?_ _) | (with_reducible refine Later.drew ?_) | (with_reducible refine Later.trans ?_ (Hid.out (by assumption))))), HK2⟩
                    case measure => simp [intOf]; omega
                · have HJ3 : Hid (nmT (L.take (j + 1)) = nmT (L.take j)) := Lib.hid (by have := HJ2.out; rw [if_neg he] at this; exact this)
                  have hne : (kd == 1) = false := by simpa using he
                  clear he
                  go_wp2_with fail
                  go_roundw
                  case rel => exact ⟨j + 1, by omega, by go_num, (by repeat (first | (with_reducible exact Later.refl _) | (with_reducible exact Hid.out (by assumption)) | (with_reducible refine Later.alloc ?_ _) | (with_reducible refine Later.setCell ?_ (by simp; omega) _) | (with_reducible refine Later.setCell ?_ (by simp) _) | (with_reducible refine Later.drewN ?_ _) | (with_reducible refine Later.drew ?_) | (with_reducible refine Later.trans ?_ (Hid.out (by assumption))))), Lib.hid (by rw [HJ3.out]; exact HK.out)⟩
                  case measure => simp [intOf]; omega
              · obtain rfl : j = q := by omega
                have HI2 := Lib.hid (HXU.out (by have := HK.out; rw [HLF.out] at this; exact this))
                clear hb
                go_wp2_with fail
                go_roundw
                case rel => exact ⟨u + 1, by omega, by go_num, L9.out, HI2⟩
                case measure => simp [intOf]; omega
          · obtain rfl : u = k := by omega
            have HV : Hid (V = 0) := Lib.hid (HV0.out (by rw [HR6.out]; exact HA6.out HI.out))
            clear hb
            go_wp2_with fail
            all_goals
              go_ret
              exact ⟨by rw [HV.out]; rfl, A0.out.trans L8.out⟩
end Go.Proofs.YtokipobjpinhmaaDoor
namespace Go.Proofs.YtokipobjpinhmaaDoor
open Go.RowKit Go.Shelf
set_option maxHeartbeats 4000000
set_option maxRecDepth 100000
set_option linter.unusedVariables false
set_option linter.unusedSimpArgs false
theorem s_ProgramFault (base : Nat) (v : Value) (p : Prg) (w : World) (hp : PgC base w v p) (hl : p.lns.length ≤ 1048576) :
    Calls Tryd.prog 16 #[v] w fun e w' => e = .returned (.tuple #[.int .i64 (pfV p), .int .i64 (pfE p)]) ∧ Later w w' := by
  have IW := Lib.hid (fun W (h : Later w W) => s_IsWritten v p W (hp.pgv.later h) (by omega))
  have BR := Lib.hid (fun W (h : Later w W) (hw : wrtB p = true) => s_Fault base v p W (hp.later h) hw)
  have HV : Hid (pfV p = if wrtB p = true then fltV p else 0) := Lib.hid rfl
  have HE : Hid (pfE p = if wrtB p = true then 0 else 1) := Lib.hid rfl
  obtain ⟨a1, c1, a2, c2, a3, c3, a4, c4, rfl, _, _, _, _, _, _⟩ := hp.pgv
  clear hp hl
  generalize pfV p = V at HV ⊢
  generalize pfE p = E at HE ⊢
  generalize wrtB p = b at IW BR HV HE
  generalize fltV p = r at BR HV
  obtain ⟨s0, hs0⟩ : ∃ q, q = tx p.nm := ⟨_, rfl⟩
  obtain ⟨s4, hs4⟩ : ∃ q, q = tx p.grd := ⟨_, rfl⟩
  obtain ⟨n1, hn1⟩ : ∃ q, q = p.ins.length := ⟨_, rfl⟩
  obtain ⟨n2, hn2⟩ : ∃ q, q = p.vrs.length := ⟨_, rfl⟩
  obtain ⟨n3, hn3⟩ : ∃ q, q = p.outs.length := ⟨_, rfl⟩
  obtain ⟨n4, hn4⟩ : ∃ q, q = p.lns.length := ⟨_, rfl⟩
  simp only [← hs0, ← hs4, ← hn1, ← hn2, ← hn3, ← hn4] at IW BR ⊢
  clear hs0 hs4 hn1 hn2 hn3 hn4
  have q0 : (w.alloc (.cells #[.string s0, .slice a1 n1 c1, .slice a2 n2 c2, .slice a3 n3 c3, .string s4, .slice a4 n4 c4] 27)).cell? ⟨w.heap.size, 0, none⟩ = some (.string s0) := by rw [cell_of_row _ _ 0 _ _ (0, 0) (heap_alloc_new w _)]; rfl
  have q1 : (w.alloc (.cells #[.string s0, .slice a1 n1 c1, .slice a2 n2 c2, .slice a3 n3 c3, .string s4, .slice a4 n4 c4] 27)).cell? ⟨w.heap.size, 1, none⟩ = some (.slice a1 n1 c1) := by rw [cell_of_row _ _ 1 _ _ (0, 0) (heap_alloc_new w _)]; rfl
  have q2 : (w.alloc (.cells #[.string s0, .slice a1 n1 c1, .slice a2 n2 c2, .slice a3 n3 c3, .string s4, .slice a4 n4 c4] 27)).cell? ⟨w.heap.size, 2, none⟩ = some (.slice a2 n2 c2) := by rw [cell_of_row _ _ 2 _ _ (0, 0) (heap_alloc_new w _)]; rfl
  have q3 : (w.alloc (.cells #[.string s0, .slice a1 n1 c1, .slice a2 n2 c2, .slice a3 n3 c3, .string s4, .slice a4 n4 c4] 27)).cell? ⟨w.heap.size, 3, none⟩ = some (.slice a3 n3 c3) := by rw [cell_of_row _ _ 3 _ _ (0, 0) (heap_alloc_new w _)]; rfl
  have q4 : (w.alloc (.cells #[.string s0, .slice a1 n1 c1, .slice a2 n2 c2, .slice a3 n3 c3, .string s4, .slice a4 n4 c4] 27)).cell? ⟨w.heap.size, 4, none⟩ = some (.string s4) := by rw [cell_of_row _ _ 4 _ _ (0, 0) (heap_alloc_new w _)]; rfl
  have q5 : (w.alloc (.cells #[.string s0, .slice a1 n1 c1, .slice a2 n2 c2, .slice a3 n3 c3, .string s4, .slice a4 n4 c4] 27)).cell? ⟨w.heap.size, 5, none⟩ = some (.slice a4 n4 c4) := by rw [cell_of_row _ _ 5 _ _ (0, 0) (heap_alloc_new w _)]; rfl
  have hW0 : w.heap.size < (w.alloc (.cells #[.string s0, .slice a1 n1 c1, .slice a2 n2 c2, .slice a3 n3 c3, .string s4, .slice a4 n4 c4] 27)).heap.size := by rw [World.size_alloc]; exact Nat.lt_succ_self _
  have C0 : Hid (∀ W', Later (w.alloc (.cells #[.string s0, .slice a1 n1 c1, .slice a2 n2 c2, .slice a3 n3 c3, .string s4, .slice a4 n4 c4] 27)) W' → W'.cell? ⟨w.heap.size, 0, none⟩ = some (.string s0) ∧ W'.cell? ⟨w.heap.size, 1, none⟩ = some (.slice a1 n1 c1) ∧ W'.cell? ⟨w.heap.size, 2, none⟩ = some (.slice a2 n2 c2) ∧ W'.cell? ⟨w.heap.size, 3, none⟩ = some (.slice a3 n3 c3) ∧ W'.cell? ⟨w.heap.size, 4, none⟩ = some (.string s4) ∧ W'.cell? ⟨w.heap.size, 5, none⟩ = some (.slice a4 n4 c4)) := Lib.hid (fun W' q => ⟨by rw [q.cell (p := ⟨w.heap.size, 0, none⟩) hW0]; exact q0, by rw [q.cell (p := ⟨w.heap.size, 1, none⟩) hW0]; exact q1, by rw [q.cell (p := ⟨w.heap.size, 2, none⟩) hW0]; exact q2, by rw [q.cell (p := ⟨w.heap.size, 3, none⟩) hW0]; exact q3, by rw [q.cell (p := ⟨w.heap.size, 4, none⟩) hW0]; exact q4, by rw [q.cell (p := ⟨w.heap.size, 5, none⟩) hW0]; exact q5⟩)
  have A0 : Hid (Later w (w.alloc (.cells #[.string s0, .slice a1 n1 c1, .slice a2 n2 c2, .slice a3 n3 c3, .string s4, .slice a4 n4 c4] 27))) := Lib.hid ((Later.refl _).alloc _)
  clear hW0
  cases b
  · obtain rfl : V = 0 := HV.out
    obtain rfl : E = 1 := HE.out
    go_enter Tryd.func16, Tryd.ntmps16
    go_wp2_with fail
    generalize (w.alloc (.cells #[.string s0, .slice a1 n1 c1, .slice a2 n2 c2, .slice a3 n3 c3, .string s4, .slice a4 n4 c4] 27)) = W0 at C0 A0 q0 q1 q2 q3 q4 q5 ⊢
    refine (IW.out _ A0.out).mono ?_
    rintro e w1 ⟨rfl, hb⟩
    have B1 := Lib.hid (Later.trans A0.out hb)
    clear q0 q1 q2 q3 q4 q5
    obtain ⟨q0, q1, q2, q3, q4, q5⟩ := C0.out _ hb
    clear hb
    go_wp2_with fail
    all_goals
      refine bodyPost_ret (v := .tuple #[.int .i64 0, .int .i64 1]) (by simp [results, Tryd.results16, go_sem, *]) rfl ⟨rfl, B1.out⟩
  · obtain rfl : V = r := HV.out
    obtain rfl : E = 0 := HE.out
    go_enter Tryd.func16, Tryd.ntmps16
    go_wp2_with fail
    generalize (w.alloc (.cells #[.string s0, .slice a1 n1 c1, .slice a2 n2 c2, .slice a3 n3 c3, .string s4, .slice a4 n4 c4] 27)) = W0 at C0 A0 q0 q1 q2 q3 q4 q5 ⊢
    refine (IW.out _ A0.out).mono ?_
    rintro e w1 ⟨rfl, hb⟩
    have B1 := Lib.hid (Later.trans A0.out hb)
    clear q0 q1 q2 q3 q4 q5
    obtain ⟨q0, q1, q2, q3, q4, q5⟩ := C0.out _ hb
    clear hb
    go_wp2_with fail
    refine (BR.out _ B1.out (by first | rfl | trivial)).mono ?_
    rintro e w2 ⟨rfl, hb⟩
    have B2 := Lib.hid (Later.trans B1.out hb)
    clear hb
    go_wp2_with fail
    all_goals
      refine bodyPost_ret (v := .tuple #[.int .i64 V, .int .i64 0]) (by simp [results, Tryd.results16, go_sem, *]) rfl ⟨rfl, B2.out⟩
theorem s_Code (base : Nat) (v : Value) (p : Prg) (w : World) (hp : PgC base w v p) (hl : p.lns.length ≤ 1048576) :
    Calls Tryd.prog 55 #[v] w fun e w' => e = .returned (.int .i64 (seV p)) ∧ Later w w' := by
  have IW := Lib.hid (fun W (h : Later w W) => s_IsWritten v p W (hp.pgv.later h) (by omega))
  have BR := Lib.hid (fun W (h : Later w W) (hw : wrtB p = true) => s_Fault base v p W (hp.later h) hw)
  have HV : Hid (seV p = if wrtB p = true then (if fltV p = 0 then 0 else 5) else 1) := Lib.hid rfl
  obtain ⟨a1, c1, a2, c2, a3, c3, a4, c4, rfl, _, _, _, _, _, _⟩ := hp.pgv
  clear hp hl
  generalize seV p = V at HV ⊢
  generalize wrtB p = b at IW BR HV
  generalize fltV p = r at BR HV
  obtain ⟨s0, hs0⟩ : ∃ q, q = tx p.nm := ⟨_, rfl⟩
  obtain ⟨s4, hs4⟩ : ∃ q, q = tx p.grd := ⟨_, rfl⟩
  obtain ⟨n1, hn1⟩ : ∃ q, q = p.ins.length := ⟨_, rfl⟩
  obtain ⟨n2, hn2⟩ : ∃ q, q = p.vrs.length := ⟨_, rfl⟩
  obtain ⟨n3, hn3⟩ : ∃ q, q = p.outs.length := ⟨_, rfl⟩
  obtain ⟨n4, hn4⟩ : ∃ q, q = p.lns.length := ⟨_, rfl⟩
  simp only [← hs0, ← hs4, ← hn1, ← hn2, ← hn3, ← hn4] at IW BR ⊢
  clear hs0 hs4 hn1 hn2 hn3 hn4
  have q0 : (w.alloc (.cells #[.string s0, .slice a1 n1 c1, .slice a2 n2 c2, .slice a3 n3 c3, .string s4, .slice a4 n4 c4] 27)).cell? ⟨w.heap.size, 0, none⟩ = some (.string s0) := by rw [cell_of_row _ _ 0 _ _ (0, 0) (heap_alloc_new w _)]; rfl
  have q1 : (w.alloc (.cells #[.string s0, .slice a1 n1 c1, .slice a2 n2 c2, .slice a3 n3 c3, .string s4, .slice a4 n4 c4] 27)).cell? ⟨w.heap.size, 1, none⟩ = some (.slice a1 n1 c1) := by rw [cell_of_row _ _ 1 _ _ (0, 0) (heap_alloc_new w _)]; rfl
  have q2 : (w.alloc (.cells #[.string s0, .slice a1 n1 c1, .slice a2 n2 c2, .slice a3 n3 c3, .string s4, .slice a4 n4 c4] 27)).cell? ⟨w.heap.size, 2, none⟩ = some (.slice a2 n2 c2) := by rw [cell_of_row _ _ 2 _ _ (0, 0) (heap_alloc_new w _)]; rfl
  have q3 : (w.alloc (.cells #[.string s0, .slice a1 n1 c1, .slice a2 n2 c2, .slice a3 n3 c3, .string s4, .slice a4 n4 c4] 27)).cell? ⟨w.heap.size, 3, none⟩ = some (.slice a3 n3 c3) := by rw [cell_of_row _ _ 3 _ _ (0, 0) (heap_alloc_new w _)]; rfl
  have q4 : (w.alloc (.cells #[.string s0, .slice a1 n1 c1, .slice a2 n2 c2, .slice a3 n3 c3, .string s4, .slice a4 n4 c4] 27)).cell? ⟨w.heap.size, 4, none⟩ = some (.string s4) := by rw [cell_of_row _ _ 4 _ _ (0, 0) (heap_alloc_new w _)]; rfl
  have q5 : (w.alloc (.cells #[.string s0, .slice a1 n1 c1, .slice a2 n2 c2, .slice a3 n3 c3, .string s4, .slice a4 n4 c4] 27)).cell? ⟨w.heap.size, 5, none⟩ = some (.slice a4 n4 c4) := by rw [cell_of_row _ _ 5 _ _ (0, 0) (heap_alloc_new w _)]; rfl
  have hW0 : w.heap.size < (w.alloc (.cells #[.string s0, .slice a1 n1 c1, .slice a2 n2 c2, .slice a3 n3 c3, .string s4, .slice a4 n4 c4] 27)).heap.size := by rw [World.size_alloc]; exact Nat.lt_succ_self _
  have C0 : Hid (∀ W', Later (w.alloc (.cells #[.string s0, .slice a1 n1 c1, .slice a2 n2 c2, .slice a3 n3 c3, .string s4, .slice a4 n4 c4] 27)) W' → W'.cell? ⟨w.heap.size, 0, none⟩ = some (.string s0) ∧ W'.cell? ⟨w.heap.size, 1, none⟩ = some (.slice a1 n1 c1) ∧ W'.cell? ⟨w.heap.size, 2, none⟩ = some (.slice a2 n2 c2) ∧ W'.cell? ⟨w.heap.size, 3, none⟩ = some (.slice a3 n3 c3) ∧ W'.cell? ⟨w.heap.size, 4, none⟩ = some (.string s4) ∧ W'.cell? ⟨w.heap.size, 5, none⟩ = some (.slice a4 n4 c4)) := Lib.hid (fun W' q => ⟨by rw [q.cell (p := ⟨w.heap.size, 0, none⟩) hW0]; exact q0, by rw [q.cell (p := ⟨w.heap.size, 1, none⟩) hW0]; exact q1, by rw [q.cell (p := ⟨w.heap.size, 2, none⟩) hW0]; exact q2, by rw [q.cell (p := ⟨w.heap.size, 3, none⟩) hW0]; exact q3, by rw [q.cell (p := ⟨w.heap.size, 4, none⟩) hW0]; exact q4, by rw [q.cell (p := ⟨w.heap.size, 5, none⟩) hW0]; exact q5⟩)
  have A0 : Hid (Later w (w.alloc (.cells #[.string s0, .slice a1 n1 c1, .slice a2 n2 c2, .slice a3 n3 c3, .string s4, .slice a4 n4 c4] 27))) := Lib.hid ((Later.refl _).alloc _)
  clear hW0
  cases b
  · obtain rfl : V = 1 := HV.out
    go_enter Tryd.func55, Tryd.ntmps55
    go_wp2_with fail
    generalize (w.alloc (.cells #[.string s0, .slice a1 n1 c1, .slice a2 n2 c2, .slice a3 n3 c3, .string s4, .slice a4 n4 c4] 27)) = W0 at C0 A0 q0 q1 q2 q3 q4 q5 ⊢
    refine (IW.out _ A0.out).mono ?_
    rintro e w1 ⟨rfl, hb⟩
    have B1 := Lib.hid (Later.trans A0.out hb)
    clear q0 q1 q2 q3 q4 q5
    obtain ⟨q0, q1, q2, q3, q4, q5⟩ := C0.out _ hb
    clear hb
    go_wp2_with fail
    all_goals
      go_ret
      exact ⟨rfl, B1.out⟩
  · have HV2 : V = if r = 0 then 0 else 5 := HV.out
    go_enter Tryd.func55, Tryd.ntmps55
    go_wp2_with fail
    generalize (w.alloc (.cells #[.string s0, .slice a1 n1 c1, .slice a2 n2 c2, .slice a3 n3 c3, .string s4, .slice a4 n4 c4] 27)) = W0 at C0 A0 q0 q1 q2 q3 q4 q5 ⊢
    refine (IW.out _ A0.out).mono ?_
    rintro e w1 ⟨rfl, hb⟩
    have B1 := Lib.hid (Later.trans A0.out hb)
    clear q0 q1 q2 q3 q4 q5
    obtain ⟨q0, q1, q2, q3, q4, q5⟩ := C0.out _ hb
    clear hb
    go_wp2_with fail
    refine (BR.out _ B1.out (by first | rfl | trivial)).mono ?_
    rintro e w2 ⟨rfl, hb⟩
    have B2 := Lib.hid (Later.trans B1.out hb)
    clear hb
    by_cases hr : r = 0
    · rw [if_pos hr] at HV2
      subst HV2; subst hr
      go_wp2_with fail
      all_goals
        go_ret
        exact ⟨rfl, B2.out⟩
    · rw [if_neg hr] at HV2
      subst HV2
      have er : (r == 0) = false := by simpa using hr
      have er2 : (r != 0) = true := by simpa using hr
      go_wp2_with fail
      all_goals
        go_ret
        exact ⟨rfl, B2.out⟩
theorem s_IsSound (base : Nat) (v : Value) (p : Prg) (w : World) (hp : PgC base w v p) (hl : p.lns.length ≤ 1048576) :
    Calls Tryd.prog 20 #[v] w fun e w' => e = .returned (.bool (isS p)) ∧ Later w w' := by
  have IW := Lib.hid (fun W (h : Later w W) => s_IsWritten v p W (hp.pgv.later h) (by omega))
  have BR := Lib.hid (fun W (h : Later w W) (hw : wrtB p = true) => s_Fault base v p W (hp.later h) hw)
  have HV : Hid (isS p = (wrtB p && decide (fltV p = 0))) := Lib.hid (by
    unfold isS seV
    cases wrtB p
    · rfl
    · by_cases h : fltV p = 0 <;> simp [h])
  obtain ⟨a1, c1, a2, c2, a3, c3, a4, c4, rfl, _, _, _, _, _, _⟩ := hp.pgv
  clear hp hl
  generalize isS p = V at HV ⊢
  generalize wrtB p = b at IW BR HV
  generalize fltV p = r at BR HV
  obtain ⟨s0, hs0⟩ : ∃ q, q = tx p.nm := ⟨_, rfl⟩
  obtain ⟨s4, hs4⟩ : ∃ q, q = tx p.grd := ⟨_, rfl⟩
  obtain ⟨n1, hn1⟩ : ∃ q, q = p.ins.length := ⟨_, rfl⟩
  obtain ⟨n2, hn2⟩ : ∃ q, q = p.vrs.length := ⟨_, rfl⟩
  obtain ⟨n3, hn3⟩ : ∃ q, q = p.outs.length := ⟨_, rfl⟩
  obtain ⟨n4, hn4⟩ : ∃ q, q = p.lns.length := ⟨_, rfl⟩
  simp only [← hs0, ← hs4, ← hn1, ← hn2, ← hn3, ← hn4] at IW BR ⊢
  clear hs0 hs4 hn1 hn2 hn3 hn4
  have q0 : (w.alloc (.cells #[.string s0, .slice a1 n1 c1, .slice a2 n2 c2, .slice a3 n3 c3, .string s4, .slice a4 n4 c4] 27)).cell? ⟨w.heap.size, 0, none⟩ = some (.string s0) := by rw [cell_of_row _ _ 0 _ _ (0, 0) (heap_alloc_new w _)]; rfl
  have q1 : (w.alloc (.cells #[.string s0, .slice a1 n1 c1, .slice a2 n2 c2, .slice a3 n3 c3, .string s4, .slice a4 n4 c4] 27)).cell? ⟨w.heap.size, 1, none⟩ = some (.slice a1 n1 c1) := by rw [cell_of_row _ _ 1 _ _ (0, 0) (heap_alloc_new w _)]; rfl
  have q2 : (w.alloc (.cells #[.string s0, .slice a1 n1 c1, .slice a2 n2 c2, .slice a3 n3 c3, .string s4, .slice a4 n4 c4] 27)).cell? ⟨w.heap.size, 2, none⟩ = some (.slice a2 n2 c2) := by rw [cell_of_row _ _ 2 _ _ (0, 0) (heap_alloc_new w _)]; rfl
  have q3 : (w.alloc (.cells #[.string s0, .slice a1 n1 c1, .slice a2 n2 c2, .slice a3 n3 c3, .string s4, .slice a4 n4 c4] 27)).cell? ⟨w.heap.size, 3, none⟩ = some (.slice a3 n3 c3) := by rw [cell_of_row _ _ 3 _ _ (0, 0) (heap_alloc_new w _)]; rfl
  have q4 : (w.alloc (.cells #[.string s0, .slice a1 n1 c1, .slice a2 n2 c2, .slice a3 n3 c3, .string s4, .slice a4 n4 c4] 27)).cell? ⟨w.heap.size, 4, none⟩ = some (.string s4) := by rw [cell_of_row _ _ 4 _ _ (0, 0) (heap_alloc_new w _)]; rfl
  have q5 : (w.alloc (.cells #[.string s0, .slice a1 n1 c1, .slice a2 n2 c2, .slice a3 n3 c3, .string s4, .slice a4 n4 c4] 27)).cell? ⟨w.heap.size, 5, none⟩ = some (.slice a4 n4 c4) := by rw [cell_of_row _ _ 5 _ _ (0, 0) (heap_alloc_new w _)]; rfl
  have hW0 : w.heap.size < (w.alloc (.cells #[.string s0, .slice a1 n1 c1, .slice a2 n2 c2, .slice a3 n3 c3, .string s4, .slice a4 n4 c4] 27)).heap.size := by rw [World.size_alloc]; exact Nat.lt_succ_self _
  have C0 : Hid (∀ W', Later (w.alloc (.cells #[.string s0, .slice a1 n1 c1, .slice a2 n2 c2, .slice a3 n3 c3, .string s4, .slice a4 n4 c4] 27)) W' → W'.cell? ⟨w.heap.size, 0, none⟩ = some (.string s0) ∧ W'.cell? ⟨w.heap.size, 1, none⟩ = some (.slice a1 n1 c1) ∧ W'.cell? ⟨w.heap.size, 2, none⟩ = some (.slice a2 n2 c2) ∧ W'.cell? ⟨w.heap.size, 3, none⟩ = some (.slice a3 n3 c3) ∧ W'.cell? ⟨w.heap.size, 4, none⟩ = some (.string s4) ∧ W'.cell? ⟨w.heap.size, 5, none⟩ = some (.slice a4 n4 c4)) := Lib.hid (fun W' q => ⟨by rw [q.cell (p := ⟨w.heap.size, 0, none⟩) hW0]; exact q0, by rw [q.cell (p := ⟨w.heap.size, 1, none⟩) hW0]; exact q1, by rw [q.cell (p := ⟨w.heap.size, 2, none⟩) hW0]; exact q2, by rw [q.cell (p := ⟨w.heap.size, 3, none⟩) hW0]; exact q3, by rw [q.cell (p := ⟨w.heap.size, 4, none⟩) hW0]; exact q4, by rw [q.cell (p := ⟨w.heap.size, 5, none⟩) hW0]; exact q5⟩)
  have A0 : Hid (Later w (w.alloc (.cells #[.string s0, .slice a1 n1 c1, .slice a2 n2 c2, .slice a3 n3 c3, .string s4, .slice a4 n4 c4] 27))) := Lib.hid ((Later.refl _).alloc _)
  clear hW0
  cases b
  · have HV2 : V = false := HV.out
    go_enter Tryd.func20, Tryd.ntmps20
    go_wp2_with fail
    generalize (w.alloc (.cells #[.string s0, .slice a1 n1 c1, .slice a2 n2 c2, .slice a3 n3 c3, .string s4, .slice a4 n4 c4] 27)) = W0 at C0 A0 q0 q1 q2 q3 q4 q5 ⊢
    refine (IW.out _ A0.out).mono ?_
    rintro e w1 ⟨rfl, hb⟩
    have B1 := Lib.hid (Later.trans A0.out hb)
    clear hb q0 q1 q2 q3 q4 q5
    go_wp2_with fail
    all_goals
      go_ret
      exact ⟨by rw [HV2]; rfl, B1.out⟩
  · have HV2 : Hid (V = decide (r = 0)) := Lib.hid HV.out
    go_enter Tryd.func20, Tryd.ntmps20
    go_wp2_with fail
    generalize (w.alloc (.cells #[.string s0, .slice a1 n1 c1, .slice a2 n2 c2, .slice a3 n3 c3, .string s4, .slice a4 n4 c4] 27)) = W0 at C0 A0 q0 q1 q2 q3 q4 q5 ⊢
    refine (IW.out _ A0.out).mono ?_
    rintro e w1 ⟨rfl, hb⟩
    have B1 := Lib.hid (Later.trans A0.out hb)
    clear q0 q1 q2 q3 q4 q5
    obtain ⟨q0, q1, q2, q3, q4, q5⟩ := C0.out _ hb
    clear hb
    go_wp2_with fail
    refine (BR.out _ B1.out (by first | rfl | trivial)).mono ?_
    rintro e w2 ⟨rfl, hb⟩
    have B2 := Lib.hid (Later.trans B1.out hb)
    clear hb
    go_wp2_with fail
    all_goals
      go_ret
      exact ⟨by rw [HV2.out]; exact ret_b (by by_cases h : r = 0 <;> simp [h]), B2.out⟩
end Go.Proofs.YtokipobjpinhmaaDoor
namespace Go.Proofs.YtokipobjpinhmaaDoor
open Go.RowKit Go.Shelf
set_option maxHeartbeats 4000000
set_option maxRecDepth 100000
set_option linter.unusedVariables false
set_option linter.unusedSimpArgs false
theorem walk_FnExactProgramFault (v : Value) (p : Prg) (w : World) (hp : PgO w v p) (hx : Ops w) :
    Calls Tryd.prog 4 #[v] w fun e w' => e = .returned (.bool true) ∧ Below w.heap.size w w' := by
  have HX := Lib.hid hx
  have HP := Lib.hid hp
  have SZ := Lib.hid (fun W h => l_szProgram v p W h)
  have TP := Lib.hid (fun W h1 h2 => l_toProgramC v p W h1 h2)
  clear hx
  obtain ⟨a1, c1, a2, c2, a3, c3, a4, c4, rfl, _, _, _, _, _, _⟩ := hp
  obtain ⟨s0, hs0⟩ : ∃ q, q = tx p.nm := ⟨_, rfl⟩
  obtain ⟨s4, hs4⟩ : ∃ q, q = tx p.grd := ⟨_, rfl⟩
  obtain ⟨n1, hn1⟩ : ∃ q, q = p.ins.length := ⟨_, rfl⟩
  obtain ⟨n2, hn2⟩ : ∃ q, q = p.vrs.length := ⟨_, rfl⟩
  obtain ⟨n3, hn3⟩ : ∃ q, q = p.outs.length := ⟨_, rfl⟩
  obtain ⟨n4, hn4⟩ : ∃ q, q = p.lns.length := ⟨_, rfl⟩
  rw [← hs0, ← hs4, ← hn1, ← hn2, ← hn3, ← hn4] at HP SZ TP ⊢
  have HS : Hid (∀ W u, PgV W u p → ∃ x1 y1 x2 y2 x3 y3 x4 y4, u = .agg #[.string s0, .slice x1 n1 y1, .slice x2 n2 y2, .slice x3 n3 y3, .string s4, .slice x4 n4 y4]) := Lib.hid (by
    rintro W u ⟨x1, y1, x2, y2, x3, y3, x4, y4, rfl, _⟩
    rw [← hs0, ← hs4, ← hn1, ← hn2, ← hn3, ← hn4]
    exact ⟨_, _, _, _, _, _, _, _, rfl⟩)
  clear hs0 hs4 hn1 hn2 hn3 hn4
  have q0 : (w.alloc (.cells #[.string s0, .slice a1 n1 c1, .slice a2 n2 c2, .slice a3 n3 c3, .string s4, .slice a4 n4 c4] 41)).cell? ⟨w.heap.size, 0, none⟩ = some (.string s0) := by rw [cell_of_row _ _ 0 _ _ (0, 0) (heap_alloc_new w _)]; rfl
  have q1 : (w.alloc (.cells #[.string s0, .slice a1 n1 c1, .slice a2 n2 c2, .slice a3 n3 c3, .string s4, .slice a4 n4 c4] 41)).cell? ⟨w.heap.size, 1, none⟩ = some (.slice a1 n1 c1) := by rw [cell_of_row _ _ 1 _ _ (0, 0) (heap_alloc_new w _)]; rfl
  have q2 : (w.alloc (.cells #[.string s0, .slice a1 n1 c1, .slice a2 n2 c2, .slice a3 n3 c3, .string s4, .slice a4 n4 c4] 41)).cell? ⟨w.heap.size, 2, none⟩ = some (.slice a2 n2 c2) := by rw [cell_of_row _ _ 2 _ _ (0, 0) (heap_alloc_new w _)]; rfl
  have q3 : (w.alloc (.cells #[.string s0, .slice a1 n1 c1, .slice a2 n2 c2, .slice a3 n3 c3, .string s4, .slice a4 n4 c4] 41)).cell? ⟨w.heap.size, 3, none⟩ = some (.slice a3 n3 c3) := by rw [cell_of_row _ _ 3 _ _ (0, 0) (heap_alloc_new w _)]; rfl
  have q4 : (w.alloc (.cells #[.string s0, .slice a1 n1 c1, .slice a2 n2 c2, .slice a3 n3 c3, .string s4, .slice a4 n4 c4] 41)).cell? ⟨w.heap.size, 4, none⟩ = some (.string s4) := by rw [cell_of_row _ _ 4 _ _ (0, 0) (heap_alloc_new w _)]; rfl
  have q5 : (w.alloc (.cells #[.string s0, .slice a1 n1 c1, .slice a2 n2 c2, .slice a3 n3 c3, .string s4, .slice a4 n4 c4] 41)).cell? ⟨w.heap.size, 5, none⟩ = some (.slice a4 n4 c4) := by rw [cell_of_row _ _ 5 _ _ (0, 0) (heap_alloc_new w _)]; rfl
  have hW0 : w.heap.size < (w.alloc (.cells #[.string s0, .slice a1 n1 c1, .slice a2 n2 c2, .slice a3 n3 c3, .string s4, .slice a4 n4 c4] 41)).heap.size := by rw [World.size_alloc]; exact Nat.lt_succ_self _
  have C0 : Hid (∀ W', Later (w.alloc (.cells #[.string s0, .slice a1 n1 c1, .slice a2 n2 c2, .slice a3 n3 c3, .string s4, .slice a4 n4 c4] 41)) W' → W'.cell? ⟨w.heap.size, 0, none⟩ = some (.string s0) ∧ W'.cell? ⟨w.heap.size, 1, none⟩ = some (.slice a1 n1 c1) ∧ W'.cell? ⟨w.heap.size, 2, none⟩ = some (.slice a2 n2 c2) ∧ W'.cell? ⟨w.heap.size, 3, none⟩ = some (.slice a3 n3 c3) ∧ W'.cell? ⟨w.heap.size, 4, none⟩ = some (.string s4) ∧ W'.cell? ⟨w.heap.size, 5, none⟩ = some (.slice a4 n4 c4)) := Lib.hid (fun W' q => ⟨by rw [q.cell (p := ⟨w.heap.size, 0, none⟩) hW0]; exact q0, by rw [q.cell (p := ⟨w.heap.size, 1, none⟩) hW0]; exact q1, by rw [q.cell (p := ⟨w.heap.size, 2, none⟩) hW0]; exact q2, by rw [q.cell (p := ⟨w.heap.size, 3, none⟩) hW0]; exact q3, by rw [q.cell (p := ⟨w.heap.size, 4, none⟩) hW0]; exact q4, by rw [q.cell (p := ⟨w.heap.size, 5, none⟩) hW0]; exact q5⟩)
  have A0 : Hid (Later w (w.alloc (.cells #[.string s0, .slice a1 n1 c1, .slice a2 n2 c2, .slice a3 n3 c3, .string s4, .slice a4 n4 c4] 41))) := Lib.hid ((Later.refl _).alloc _)
  clear hW0
  go_enter Tryd.func4, Tryd.ntmps4
  go_wp2_with fail
  generalize (w.alloc (.cells #[.string s0, .slice a1 n1 c1, .slice a2 n2 c2, .slice a3 n3 c3, .string s4, .slice a4 n4 c4] 41)) = W0 at C0 A0 q0 q1 q2 q3 q4 q5 ⊢
  clear q0 q1 q2 q3 q4 q5
  refine (SZ.out _ (show PgO W0 _ p from ?_)).mono ?_
  · obtain ⟨b1, d1, b2, d2, b3, d3, b4, d4, e, h1, h2, h3, h4, h5, h6⟩ := HP.out
    exact ⟨b1, d1, b2, d2, b3, d3, b4, d4, e, h1.later A0.out, h2.later A0.out, h3.later A0.out, h4.later A0.out, h5, h6⟩
  rintro e w1 ⟨rfl | ⟨r, rfl, hsh⟩, hb⟩
  · have B1 := Lib.hid hb
    obtain ⟨q0, q1, q2, q3, q4, q5⟩ := C0.out _ hb
    clear hb
    go_wp2_with fail
    go_ret
    exact ⟨rfl, Later.trans A0.out B1.out⟩
  · have B1 := Lib.hid (show Later W0 w1 from hb)
    have P0 := Lib.hid (HP.out.pgv hsh)
    have PW := Lib.hid (show ∀ W, Later W0 W → PgV W (.agg #[.string s0, .slice a1 n1 c1, .slice a2 n2 c2, .slice a3 n3 c3, .string s4, .slice a4 n4 c4]) p from fun W h => P0.out.later (Later.trans A0.out h))
    have HSH := Lib.hid hsh
    have hlen : p.lns.length ≤ 1048576 := by have := hsh.2.2.2.2.2.1; omega
    have SS : Hid (∀ base u W, PgC base W u p → Calls Tryd.prog 16 #[u] W fun e w' => e = .returned (.tuple #[.int .i64 (pfV p), .int .i64 (pfE p)]) ∧ Later W w') := Lib.hid (fun base u W h => by exact s_ProgramFault base u p W h (by omega))
    have IS : Hid (∀ base u W, PgC base W u p → Ops W → Calls Tryd.prog 15 #[u] W fun e w' => e = .returned (.tuple #[.int .i64 (pfV p), .int .i64 (pfE p)]) ∧ Later W w') := Lib.hid (fun base u W h hW => by exact i_ProgramFault base u p W h hW (by omega))

    obtain ⟨q0, q1, q2, q3, q4, q5⟩ := C0.out _ hb
    clear hb hsh
    go_wp2_with fail
    refine (TP.out _ (PW.out _ B1.out) HSH.out).mono ?_
    rintro e w2 ⟨u, rfl, hu, hb⟩
    have B2 := Lib.hid (Later.trans B1.out hb)
    have U2 := Lib.hid hu
    clear hb hu q0 q1 q2 q3 q4 q5
    obtain ⟨q0, q1, q2, q3, q4, q5⟩ := C0.out _ B2.out
    go_wp2_with fail
    refine (SS.out _ u _ U2.out).mono ?_
    rintro e w3 ⟨rfl, hb⟩
    have B3 := Lib.hid (Later.trans B2.out hb)
    generalize pfV p = V at IS ⊢
    generalize pfE p = E at IS ⊢
    clear SS
    clear hb U2 q0 q1 q2 q3 q4 q5
    obtain ⟨q0, q1, q2, q3, q4, q5⟩ := C0.out _ B3.out
    go_wp2_with fail
    refine (TP.out _ (PW.out _ B3.out) HSH.out).mono ?_
    rintro e w4 ⟨u2, rfl, hu, hb⟩
    have B4 := Lib.hid (Later.trans B3.out hb)
    obtain ⟨x1, y1, x2, y2, x3, y3, x4, y4, rfl⟩ := HS.out _ _ hu.pgv
    have U4 := Lib.hid hu
    clear hb hu q0 q1 q2 q3 q4 q5
    have F4 := Lib.hid (frP_new w4 [.string s0, .slice x1 n1 y1, .slice x2 n2 y2, .slice x3 n3 y3, .string s4, .slice x4 n4 y4] 27)
    have L4 : Hid (Later w4 (w4.alloc (.cells #[.string s0, .slice x1 n1 y1, .slice x2 n2 y2, .slice x3 n3 y3, .string s4, .slice x4 n4 y4] 27))) := Lib.hid ((Later.refl _).alloc _)
    obtain ⟨q0, q1, q2, q3, q4, q5⟩ := C0.out _ B4.out
    obtain ⟨o0, o1, o2, o3, o4, o5, _, _, _, _, _, _⟩ := F4.out.o6
    go_wp2_with fail
    refine calls_into (S := fun W => Later w4 W ∧ Fr w4.heap.size [.string s0, .slice x1 n1 y1, .slice x2 n2 y2, .slice x3 n3 y3, .string s4, .slice x4 n4 y4] W) ⟨L4.out, F4.out⟩ ?_
    clear L4 F4 o0 o1 o2 o3 o4 o5 q0 q1 q2 q3 q4 q5
    rintro W5 ⟨l5, f5⟩
    refine (IS.out _ _ _ (U4.out.later l5) (HX.out.later (Later.trans A0.out (Later.trans B4.out l5)))).mono ?_
    rintro e w6 ⟨rfl, hb⟩
    have B6 := Lib.hid (Later.trans B4.out (Later.trans l5 hb))
    have X6 := Lib.hid (U4.out.later (Later.trans l5 hb))
    have F6 := Lib.hid (fr_later f5 hb)
    clear hb l5 f5 U4
    obtain ⟨q0, q1, q2, q3, q4, q5⟩ := C0.out _ B6.out
    obtain ⟨o0, o1, o2, o3, o4, o5, _, _, _, _, _, _⟩ := F6.out.o6
    have KL : Hid (∀ W', Later w6 W' → (W'.cell? ⟨w.heap.size, 0, none⟩ = some (.string s0) ∧ W'.cell? ⟨w.heap.size, 1, none⟩ = some (.slice a1 n1 c1) ∧ W'.cell? ⟨w.heap.size, 2, none⟩ = some (.slice a2 n2 c2) ∧ W'.cell? ⟨w.heap.size, 3, none⟩ = some (.slice a3 n3 c3) ∧ W'.cell? ⟨w.heap.size, 4, none⟩ = some (.string s4) ∧ W'.cell? ⟨w.heap.size, 5, none⟩ = some (.slice a4 n4 c4)) ∧ (W'.cell? ⟨w4.heap.size, 0, none⟩ = some (.string s0) ∧ W'.cell? ⟨w4.heap.size, 1, none⟩ = some (.slice x1 n1 y1) ∧ W'.cell? ⟨w4.heap.size, 2, none⟩ = some (.slice x2 n2 y2) ∧ W'.cell? ⟨w4.heap.size, 3, none⟩ = some (.slice x3 n3 y3) ∧ W'.cell? ⟨w4.heap.size, 4, none⟩ = some (.string s4) ∧ W'.cell? ⟨w4.heap.size, 5, none⟩ = some (.slice x4 n4 y4))) := Lib.hid (fun W' q => ⟨C0.out _ (Later.trans B6.out q), by
      obtain ⟨o0, o1, o2, o3, o4, o5, _, _, _, _, _, _⟩ := (fr_later F6.out q).o6
      exact ⟨o0, o1, o2, o3, o4, o5⟩⟩)
    have eV : ∀ b : Bool, (b != b) = false := fun b => by simp
    have RL := Lib.hid (Later.refl w6)
    have PW6 : Hid (∀ W, Later w6 W → PgV W (.agg #[.string s0, .slice a1 n1 c1, .slice a2 n2 c2, .slice a3 n3 c3, .string s4, .slice a4 n4 c4]) p) := Lib.hid (fun W h => PW.out _ (Later.trans B6.out h))
    go_wp2_with fail
    go_region_held3 (fun W' => (W'.cell? ⟨w.heap.size, 0, none⟩ = some (.string s0) ∧ W'.cell? ⟨w.heap.size, 1, none⟩ = some (.slice a1 n1 c1) ∧ W'.cell? ⟨w.heap.size, 2, none⟩ = some (.slice a2 n2 c2) ∧ W'.cell? ⟨w.heap.size, 3, none⟩ = some (.slice a3 n3 c3) ∧ W'.cell? ⟨w.heap.size, 4, none⟩ = some (.string s4) ∧ W'.cell? ⟨w.heap.size, 5, none⟩ = some (.slice a4 n4 c4)) ∧ (W'.cell? ⟨w4.heap.size, 0, none⟩ = some (.string s0) ∧ W'.cell? ⟨w4.heap.size, 1, none⟩ = some (.slice x1 n1 y1) ∧ W'.cell? ⟨w4.heap.size, 2, none⟩ = some (.slice x2 n2 y2) ∧ W'.cell? ⟨w4.heap.size, 3, none⟩ = some (.slice x3 n3 y3) ∧ W'.cell? ⟨w4.heap.size, 4, none⟩ = some (.string s4) ∧ W'.cell? ⟨w4.heap.size, 5, none⟩ = some (.slice x4 n4 y4))) (exact KL.out _ (by repeat (first | (with_reducible exact Later.refl _) | (with_reducible exact Hid.out (by assumption)) | (with_reducible refine Later.alloc ?_ _) | (with_reducible refine Later.setCell ?_ (by simp; omega) _) | (with_reducible refine Later.setCell ?_ (by simp) _) | (with_reducible refine Later.drewN ?_ _) | (with_reducible refine Later.drew ?_) | (with_reducible refine Later.trans ?_ (Hid.out (by assumption))))))
      (first
        | (go_at_call 25; refine (TP.out _ (PW6.out _ (by repeat (first | (with_reducible exact Later.refl _) | (with_reducible exact Hid.out (by assumption)) | (with_reducible refine Later.alloc ?_ _) | (with_reducible refine Later.setCell ?_ (by simp; omega) _) | (with_reducible refine Later.setCell ?_ (by simp) _) | (with_reducible refine Later.drewN ?_ _) | (with_reducible refine Later.drew ?_) | (with_reducible refine Later.trans ?_ (Hid.out (by assumption)))))) HSH.out).mono ?_; rintro e w7 ⟨u7, rfl, hu, hb⟩; have U7 := Lib.hid hu; have H7 := Lib.hid hb; clear hb hu)
        | (go_at_call 26; refine (l_eqProgram_same _ _ p _ (X6.out.pgv.later (by repeat (first | (with_reducible exact Later.refl _) | (with_reducible exact Hid.out (by assumption)) | (with_reducible refine Later.alloc ?_ _) | (with_reducible refine Later.setCell ?_ (by simp; omega) _) | (with_reducible refine Later.setCell ?_ (by simp) _) | (with_reducible refine Later.drewN ?_ _) | (with_reducible refine Later.drew ?_) | (with_reducible refine Later.trans ?_ (Hid.out (by assumption)))))) (U7.out.pgv.later (by repeat (first | (with_reducible exact Later.refl _) | (with_reducible exact Hid.out (by assumption)) | (with_reducible refine Later.alloc ?_ _) | (with_reducible refine Later.setCell ?_ (by simp; omega) _) | (with_reducible refine Later.setCell ?_ (by simp) _) | (with_reducible refine Later.drewN ?_ _) | (with_reducible refine Later.drew ?_) | (with_reducible refine Later.trans ?_ (Hid.out (by assumption))))))).mono ?_; rintro e w8 ⟨rfl, hb⟩; have H8 := Lib.hid hb; clear hb))
    all_goals
      go_wp2
      go_ret
      exact ⟨rfl, Later.trans A0.out (Later.trans B6.out (by repeat (first | (with_reducible exact Later.refl _) | (with_reducible exact Hid.out (by assumption)) | (with_reducible refine Later.alloc ?_ _) | (with_reducible refine Later.setCell ?_ (by simp; omega) _) | (with_reducible refine Later.setCell ?_ (by simp) _) | (with_reducible refine Later.drewN ?_ _) | (with_reducible refine Later.drew ?_) | (with_reducible refine Later.trans ?_ (Hid.out (by assumption))))))⟩
theorem walk_FnExactIsSound (v : Value) (p : Prg) (w : World) (hp : PgO w v p) (hx : Ops w) :
    Calls Tryd.prog 5 #[v] w fun e w' => e = .returned (.bool true) ∧ Below w.heap.size w w' := by
  have HX := Lib.hid hx
  have HP := Lib.hid hp
  have SZ := Lib.hid (fun W h => l_szProgram v p W h)
  have TP := Lib.hid (fun W h1 h2 => l_toProgramC v p W h1 h2)
  clear hx
  obtain ⟨a1, c1, a2, c2, a3, c3, a4, c4, rfl, _, _, _, _, _, _⟩ := hp
  obtain ⟨s0, hs0⟩ : ∃ q, q = tx p.nm := ⟨_, rfl⟩
  obtain ⟨s4, hs4⟩ : ∃ q, q = tx p.grd := ⟨_, rfl⟩
  obtain ⟨n1, hn1⟩ : ∃ q, q = p.ins.length := ⟨_, rfl⟩
  obtain ⟨n2, hn2⟩ : ∃ q, q = p.vrs.length := ⟨_, rfl⟩
  obtain ⟨n3, hn3⟩ : ∃ q, q = p.outs.length := ⟨_, rfl⟩
  obtain ⟨n4, hn4⟩ : ∃ q, q = p.lns.length := ⟨_, rfl⟩
  rw [← hs0, ← hs4, ← hn1, ← hn2, ← hn3, ← hn4] at HP SZ TP ⊢
  have HS : Hid (∀ W u, PgV W u p → ∃ x1 y1 x2 y2 x3 y3 x4 y4, u = .agg #[.string s0, .slice x1 n1 y1, .slice x2 n2 y2, .slice x3 n3 y3, .string s4, .slice x4 n4 y4]) := Lib.hid (by
    rintro W u ⟨x1, y1, x2, y2, x3, y3, x4, y4, rfl, _⟩
    rw [← hs0, ← hs4, ← hn1, ← hn2, ← hn3, ← hn4]
    exact ⟨_, _, _, _, _, _, _, _, rfl⟩)
  clear hs0 hs4 hn1 hn2 hn3 hn4
  have q0 : (w.alloc (.cells #[.string s0, .slice a1 n1 c1, .slice a2 n2 c2, .slice a3 n3 c3, .string s4, .slice a4 n4 c4] 41)).cell? ⟨w.heap.size, 0, none⟩ = some (.string s0) := by rw [cell_of_row _ _ 0 _ _ (0, 0) (heap_alloc_new w _)]; rfl
  have q1 : (w.alloc (.cells #[.string s0, .slice a1 n1 c1, .slice a2 n2 c2, .slice a3 n3 c3, .string s4, .slice a4 n4 c4] 41)).cell? ⟨w.heap.size, 1, none⟩ = some (.slice a1 n1 c1) := by rw [cell_of_row _ _ 1 _ _ (0, 0) (heap_alloc_new w _)]; rfl
  have q2 : (w.alloc (.cells #[.string s0, .slice a1 n1 c1, .slice a2 n2 c2, .slice a3 n3 c3, .string s4, .slice a4 n4 c4] 41)).cell? ⟨w.heap.size, 2, none⟩ = some (.slice a2 n2 c2) := by rw [cell_of_row _ _ 2 _ _ (0, 0) (heap_alloc_new w _)]; rfl
  have q3 : (w.alloc (.cells #[.string s0, .slice a1 n1 c1, .slice a2 n2 c2, .slice a3 n3 c3, .string s4, .slice a4 n4 c4] 41)).cell? ⟨w.heap.size, 3, none⟩ = some (.slice a3 n3 c3) := by rw [cell_of_row _ _ 3 _ _ (0, 0) (heap_alloc_new w _)]; rfl
  have q4 : (w.alloc (.cells #[.string s0, .slice a1 n1 c1, .slice a2 n2 c2, .slice a3 n3 c3, .string s4, .slice a4 n4 c4] 41)).cell? ⟨w.heap.size, 4, none⟩ = some (.string s4) := by rw [cell_of_row _ _ 4 _ _ (0, 0) (heap_alloc_new w _)]; rfl
  have q5 : (w.alloc (.cells #[.string s0, .slice a1 n1 c1, .slice a2 n2 c2, .slice a3 n3 c3, .string s4, .slice a4 n4 c4] 41)).cell? ⟨w.heap.size, 5, none⟩ = some (.slice a4 n4 c4) := by rw [cell_of_row _ _ 5 _ _ (0, 0) (heap_alloc_new w _)]; rfl
  have hW0 : w.heap.size < (w.alloc (.cells #[.string s0, .slice a1 n1 c1, .slice a2 n2 c2, .slice a3 n3 c3, .string s4, .slice a4 n4 c4] 41)).heap.size := by rw [World.size_alloc]; exact Nat.lt_succ_self _
  have C0 : Hid (∀ W', Later (w.alloc (.cells #[.string s0, .slice a1 n1 c1, .slice a2 n2 c2, .slice a3 n3 c3, .string s4, .slice a4 n4 c4] 41)) W' → W'.cell? ⟨w.heap.size, 0, none⟩ = some (.string s0) ∧ W'.cell? ⟨w.heap.size, 1, none⟩ = some (.slice a1 n1 c1) ∧ W'.cell? ⟨w.heap.size, 2, none⟩ = some (.slice a2 n2 c2) ∧ W'.cell? ⟨w.heap.size, 3, none⟩ = some (.slice a3 n3 c3) ∧ W'.cell? ⟨w.heap.size, 4, none⟩ = some (.string s4) ∧ W'.cell? ⟨w.heap.size, 5, none⟩ = some (.slice a4 n4 c4)) := Lib.hid (fun W' q => ⟨by rw [q.cell (p := ⟨w.heap.size, 0, none⟩) hW0]; exact q0, by rw [q.cell (p := ⟨w.heap.size, 1, none⟩) hW0]; exact q1, by rw [q.cell (p := ⟨w.heap.size, 2, none⟩) hW0]; exact q2, by rw [q.cell (p := ⟨w.heap.size, 3, none⟩) hW0]; exact q3, by rw [q.cell (p := ⟨w.heap.size, 4, none⟩) hW0]; exact q4, by rw [q.cell (p := ⟨w.heap.size, 5, none⟩) hW0]; exact q5⟩)
  have A0 : Hid (Later w (w.alloc (.cells #[.string s0, .slice a1 n1 c1, .slice a2 n2 c2, .slice a3 n3 c3, .string s4, .slice a4 n4 c4] 41))) := Lib.hid ((Later.refl _).alloc _)
  clear hW0
  go_enter Tryd.func5, Tryd.ntmps5
  go_wp2_with fail
  generalize (w.alloc (.cells #[.string s0, .slice a1 n1 c1, .slice a2 n2 c2, .slice a3 n3 c3, .string s4, .slice a4 n4 c4] 41)) = W0 at C0 A0 q0 q1 q2 q3 q4 q5 ⊢
  clear q0 q1 q2 q3 q4 q5
  refine (SZ.out _ (show PgO W0 _ p from ?_)).mono ?_
  · obtain ⟨b1, d1, b2, d2, b3, d3, b4, d4, e, h1, h2, h3, h4, h5, h6⟩ := HP.out
    exact ⟨b1, d1, b2, d2, b3, d3, b4, d4, e, h1.later A0.out, h2.later A0.out, h3.later A0.out, h4.later A0.out, h5, h6⟩
  rintro e w1 ⟨rfl | ⟨r, rfl, hsh⟩, hb⟩
  · have B1 := Lib.hid hb
    obtain ⟨q0, q1, q2, q3, q4, q5⟩ := C0.out _ hb
    clear hb
    go_wp2_with fail
    go_ret
    exact ⟨rfl, Later.trans A0.out B1.out⟩
  · have B1 := Lib.hid (show Later W0 w1 from hb)
    have P0 := Lib.hid (HP.out.pgv hsh)
    have PW := Lib.hid (show ∀ W, Later W0 W → PgV W (.agg #[.string s0, .slice a1 n1 c1, .slice a2 n2 c2, .slice a3 n3 c3, .string s4, .slice a4 n4 c4]) p from fun W h => P0.out.later (Later.trans A0.out h))
    have HSH := Lib.hid hsh
    have hlen : p.lns.length ≤ 1048576 := by have := hsh.2.2.2.2.2.1; omega
    have SS : Hid (∀ base u W, PgC base W u p → Calls Tryd.prog 20 #[u] W fun e w' => e = .returned (.bool (isS p)) ∧ Later W w') := Lib.hid (fun base u W h => by exact s_IsSound base u p W h (by omega))
    have IS : Hid (∀ base u W, PgC base W u p → Ops W → Calls Tryd.prog 19 #[u] W fun e w' => e = .returned (.bool (isS p)) ∧ Later W w') := Lib.hid (fun base u W h hW => by exact i_IsSound base u p W h hW (by omega))

    obtain ⟨q0, q1, q2, q3, q4, q5⟩ := C0.out _ hb
    clear hb hsh
    go_wp2_with fail
    refine (TP.out _ (PW.out _ B1.out) HSH.out).mono ?_
    rintro e w2 ⟨u, rfl, hu, hb⟩
    have B2 := Lib.hid (Later.trans B1.out hb)
    have U2 := Lib.hid hu
    clear hb hu q0 q1 q2 q3 q4 q5
    obtain ⟨q0, q1, q2, q3, q4, q5⟩ := C0.out _ B2.out
    go_wp2_with fail
    refine (SS.out _ u _ U2.out).mono ?_
    rintro e w3 ⟨rfl, hb⟩
    have B3 := Lib.hid (Later.trans B2.out hb)
    generalize isS p = V at IS ⊢
    clear SS
    clear hb U2 q0 q1 q2 q3 q4 q5
    obtain ⟨q0, q1, q2, q3, q4, q5⟩ := C0.out _ B3.out
    go_wp2_with fail
    refine (TP.out _ (PW.out _ B3.out) HSH.out).mono ?_
    rintro e w4 ⟨u2, rfl, hu, hb⟩
    have B4 := Lib.hid (Later.trans B3.out hb)
    obtain ⟨x1, y1, x2, y2, x3, y3, x4, y4, rfl⟩ := HS.out _ _ hu.pgv
    have U4 := Lib.hid hu
    clear hb hu q0 q1 q2 q3 q4 q5
    have F4 := Lib.hid (frP_new w4 [.string s0, .slice x1 n1 y1, .slice x2 n2 y2, .slice x3 n3 y3, .string s4, .slice x4 n4 y4] 27)
    have L4 : Hid (Later w4 (w4.alloc (.cells #[.string s0, .slice x1 n1 y1, .slice x2 n2 y2, .slice x3 n3 y3, .string s4, .slice x4 n4 y4] 27))) := Lib.hid ((Later.refl _).alloc _)
    obtain ⟨q0, q1, q2, q3, q4, q5⟩ := C0.out _ B4.out
    obtain ⟨o0, o1, o2, o3, o4, o5, _, _, _, _, _, _⟩ := F4.out.o6
    go_wp2_with fail
    refine calls_into (S := fun W => Later w4 W ∧ Fr w4.heap.size [.string s0, .slice x1 n1 y1, .slice x2 n2 y2, .slice x3 n3 y3, .string s4, .slice x4 n4 y4] W) ⟨L4.out, F4.out⟩ ?_
    clear L4 F4 o0 o1 o2 o3 o4 o5 q0 q1 q2 q3 q4 q5
    rintro W5 ⟨l5, f5⟩
    refine (IS.out _ _ _ (U4.out.later l5) (HX.out.later (Later.trans A0.out (Later.trans B4.out l5)))).mono ?_
    rintro e w6 ⟨rfl, hb⟩
    have B6 := Lib.hid (Later.trans B4.out (Later.trans l5 hb))
    have X6 := Lib.hid (U4.out.later (Later.trans l5 hb))
    have F6 := Lib.hid (fr_later f5 hb)
    clear hb l5 f5 U4
    obtain ⟨q0, q1, q2, q3, q4, q5⟩ := C0.out _ B6.out
    obtain ⟨o0, o1, o2, o3, o4, o5, _, _, _, _, _, _⟩ := F6.out.o6
    have KL : Hid (∀ W', Later w6 W' → (W'.cell? ⟨w.heap.size, 0, none⟩ = some (.string s0) ∧ W'.cell? ⟨w.heap.size, 1, none⟩ = some (.slice a1 n1 c1) ∧ W'.cell? ⟨w.heap.size, 2, none⟩ = some (.slice a2 n2 c2) ∧ W'.cell? ⟨w.heap.size, 3, none⟩ = some (.slice a3 n3 c3) ∧ W'.cell? ⟨w.heap.size, 4, none⟩ = some (.string s4) ∧ W'.cell? ⟨w.heap.size, 5, none⟩ = some (.slice a4 n4 c4)) ∧ (W'.cell? ⟨w4.heap.size, 0, none⟩ = some (.string s0) ∧ W'.cell? ⟨w4.heap.size, 1, none⟩ = some (.slice x1 n1 y1) ∧ W'.cell? ⟨w4.heap.size, 2, none⟩ = some (.slice x2 n2 y2) ∧ W'.cell? ⟨w4.heap.size, 3, none⟩ = some (.slice x3 n3 y3) ∧ W'.cell? ⟨w4.heap.size, 4, none⟩ = some (.string s4) ∧ W'.cell? ⟨w4.heap.size, 5, none⟩ = some (.slice x4 n4 y4))) := Lib.hid (fun W' q => ⟨C0.out _ (Later.trans B6.out q), by
      obtain ⟨o0, o1, o2, o3, o4, o5, _, _, _, _, _, _⟩ := (fr_later F6.out q).o6
      exact ⟨o0, o1, o2, o3, o4, o5⟩⟩)
    have eV : ∀ b : Bool, (b != b) = false := fun b => by simp
    have RL := Lib.hid (Later.refl w6)
    have PW6 : Hid (∀ W, Later w6 W → PgV W (.agg #[.string s0, .slice a1 n1 c1, .slice a2 n2 c2, .slice a3 n3 c3, .string s4, .slice a4 n4 c4]) p) := Lib.hid (fun W h => PW.out _ (Later.trans B6.out h))
    go_wp2_with fail
    go_region_held3 (fun W' => (W'.cell? ⟨w.heap.size, 0, none⟩ = some (.string s0) ∧ W'.cell? ⟨w.heap.size, 1, none⟩ = some (.slice a1 n1 c1) ∧ W'.cell? ⟨w.heap.size, 2, none⟩ = some (.slice a2 n2 c2) ∧ W'.cell? ⟨w.heap.size, 3, none⟩ = some (.slice a3 n3 c3) ∧ W'.cell? ⟨w.heap.size, 4, none⟩ = some (.string s4) ∧ W'.cell? ⟨w.heap.size, 5, none⟩ = some (.slice a4 n4 c4)) ∧ (W'.cell? ⟨w4.heap.size, 0, none⟩ = some (.string s0) ∧ W'.cell? ⟨w4.heap.size, 1, none⟩ = some (.slice x1 n1 y1) ∧ W'.cell? ⟨w4.heap.size, 2, none⟩ = some (.slice x2 n2 y2) ∧ W'.cell? ⟨w4.heap.size, 3, none⟩ = some (.slice x3 n3 y3) ∧ W'.cell? ⟨w4.heap.size, 4, none⟩ = some (.string s4) ∧ W'.cell? ⟨w4.heap.size, 5, none⟩ = some (.slice x4 n4 y4))) (exact KL.out _ (by repeat (first | (with_reducible exact Later.refl _) | (with_reducible exact Hid.out (by assumption)) | (with_reducible refine Later.alloc ?_ _) | (with_reducible refine Later.setCell ?_ (by simp; omega) _) | (with_reducible refine Later.setCell ?_ (by simp) _) | (with_reducible refine Later.drewN ?_ _) | (with_reducible refine Later.drew ?_) | (with_reducible refine Later.trans ?_ (Hid.out (by assumption))))))
      (first
        | (go_at_call 25; refine (TP.out _ (PW6.out _ (by repeat (first | (with_reducible exact Later.refl _) | (with_reducible exact Hid.out (by assumption)) | (with_reducible refine Later.alloc ?_ _) | (with_reducible refine Later.setCell ?_ (by simp; omega) _) | (with_reducible refine Later.setCell ?_ (by simp) _) | (with_reducible refine Later.drewN ?_ _) | (with_reducible refine Later.drew ?_) | (with_reducible refine Later.trans ?_ (Hid.out (by assumption)))))) HSH.out).mono ?_; rintro e w7 ⟨u7, rfl, hu, hb⟩; have U7 := Lib.hid hu; have H7 := Lib.hid hb; clear hb hu)
        | (go_at_call 26; refine (l_eqProgram_same _ _ p _ (X6.out.pgv.later (by repeat (first | (with_reducible exact Later.refl _) | (with_reducible exact Hid.out (by assumption)) | (with_reducible refine Later.alloc ?_ _) | (with_reducible refine Later.setCell ?_ (by simp; omega) _) | (with_reducible refine Later.setCell ?_ (by simp) _) | (with_reducible refine Later.drewN ?_ _) | (with_reducible refine Later.drew ?_) | (with_reducible refine Later.trans ?_ (Hid.out (by assumption)))))) (U7.out.pgv.later (by repeat (first | (with_reducible exact Later.refl _) | (with_reducible exact Hid.out (by assumption)) | (with_reducible refine Later.alloc ?_ _) | (with_reducible refine Later.setCell ?_ (by simp; omega) _) | (with_reducible refine Later.setCell ?_ (by simp) _) | (with_reducible refine Later.drewN ?_ _) | (with_reducible refine Later.drew ?_) | (with_reducible refine Later.trans ?_ (Hid.out (by assumption))))))).mono ?_; rintro e w8 ⟨rfl, hb⟩; have H8 := Lib.hid hb; clear hb))
    all_goals
      go_wp2
      go_ret
      exact ⟨rfl, Later.trans A0.out (Later.trans B6.out (by repeat (first | (with_reducible exact Later.refl _) | (with_reducible exact Hid.out (by assumption)) | (with_reducible refine Later.alloc ?_ _) | (with_reducible refine Later.setCell ?_ (by simp; omega) _) | (with_reducible refine Later.setCell ?_ (by simp) _) | (with_reducible refine Later.drewN ?_ _) | (with_reducible refine Later.drew ?_) | (with_reducible refine Later.trans ?_ (Hid.out (by assumption))))))⟩
end Go.Proofs.YtokipobjpinhmaaDoor
