/- The walk of the exact law on LineOf. -/
import Derived.Test.YtokipobjpinhmaaDoorPuL
namespace Go.Proofs.YtokipobjpinhmaaDoor
open Go.RowKit Go.Shelf
set_option maxHeartbeats 4000000
set_option maxRecDepth 100000
set_option linter.unusedVariables false
set_option linter.unusedSimpArgs false
theorem tx_ofS (s : ByteArray) : tx s.data.toList = s := by cases s; simp [tx]
theorem walk_FnExactLineOf (v : Value) (p : Prg) (s : ByteArray) (w : World) (hp : PgO w v p) (hml : s.size ≤ maxLen) (hx : Ops w) :
    Calls Tryd.prog 6 #[v, .string s] w fun e w' => e = .returned (.bool true) ∧ Below w.heap.size w w' := by
  have HX := Lib.hid hx
  have HP := Lib.hid hp
  have SZ := Lib.hid (fun W h => l_szProgram v p W h)
  have TP := Lib.hid (fun W h1 h2 => l_toProgram v p W h1 h2)
  clear hx hml
  obtain ⟨a1, c1, a2, c2, a3, c3, a4, c4, rfl, _, _, _, _, _, _⟩ := hp
  obtain ⟨s0, hs0⟩ : ∃ q, q = tx p.nm := ⟨_, rfl⟩
  obtain ⟨s4, hs4⟩ : ∃ q, q = tx p.grd := ⟨_, rfl⟩
  obtain ⟨n1, hn1⟩ : ∃ q, q = p.ins.length := ⟨_, rfl⟩
  obtain ⟨n2, hn2⟩ : ∃ q, q = p.vrs.length := ⟨_, rfl⟩
  obtain ⟨n3, hn3⟩ : ∃ q, q = p.outs.length := ⟨_, rfl⟩
  obtain ⟨n4, hn4⟩ : ∃ q, q = p.lns.length := ⟨_, rfl⟩
  rw [← hs0, ← hs4, ← hn1, ← hn2, ← hn3, ← hn4] at HP SZ TP ⊢
  have HS : Hid (∀ W u, PgV W u p → ∃ x1 y1 x2 y2 x3 y3 x4 y4, u = .agg #[.string s0, .slice x1 n1 y1, .slice x2 n2 y2, .slice x3 n3 y3, .string s4, .slice x4 n4 y4]) := Lib.hid (by
    rintro W u ⟨x1, y1, x2, y2, x3, y3, x4, y4, rfl, _⟩
    rw [← hs0, ← hs4, ← hn1, ← hn2, ← hn3, ← hn4]
    exact ⟨_, _, _, _, _, _, _, _, rfl⟩)
  clear hs0 hs4 hn1 hn2 hn3 hn4
  have q0 : (w.alloc (.cells #[.string s0, .slice a1 n1 c1, .slice a2 n2 c2, .slice a3 n3 c3, .string s4, .slice a4 n4 c4] 41)).cell? ⟨w.heap.size, 0, none⟩ = some (.string s0) := by rw [cell_of_row _ _ 0 _ _ (0, 0) (heap_alloc_new w _)]; rfl
  have q1 : (w.alloc (.cells #[.string s0, .slice a1 n1 c1, .slice a2 n2 c2, .slice a3 n3 c3, .string s4, .slice a4 n4 c4] 41)).cell? ⟨w.heap.size, 1, none⟩ = some (.slice a1 n1 c1) := by rw [cell_of_row _ _ 1 _ _ (0, 0) (heap_alloc_new w _)]; rfl
  have q2 : (w.alloc (.cells #[.string s0, .slice a1 n1 c1, .slice a2 n2 c2, .slice a3 n3 c3, .string s4, .slice a4 n4 c4] 41)).cell? ⟨w.heap.size, 2, none⟩ = some (.slice a2 n2 c2) := by rw [cell_of_row _ _ 2 _ _ (0, 0) (heap_alloc_new w _)]; rfl
  have q3 : (w.alloc (.cells #[.string s0, .slice a1 n1 c1, .slice a2 n2 c2, .slice a3 n3 c3, .string s4, .slice a4 n4 c4] 41)).cell? ⟨w.heap.size, 3, none⟩ = some (.slice a3 n3 c3) := by rw [cell_of_row _ _ 3 _ _ (0, 0) (heap_alloc_new w _)]; rfl
  have q4 : (w.alloc (.cells #[.string s0, .slice a1 n1 c1, .slice a2 n2 c2, .slice a3 n3 c3, .string s4, .slice a4 n4 c4] 41)).cell? ⟨w.heap.size, 4, none⟩ = some (.string s4) := by rw [cell_of_row _ _ 4 _ _ (0, 0) (heap_alloc_new w _)]; rfl
  have q5 : (w.alloc (.cells #[.string s0, .slice a1 n1 c1, .slice a2 n2 c2, .slice a3 n3 c3, .string s4, .slice a4 n4 c4] 41)).cell? ⟨w.heap.size, 5, none⟩ = some (.slice a4 n4 c4) := by rw [cell_of_row _ _ 5 _ _ (0, 0) (heap_alloc_new w _)]; rfl
  have hW0 : w.heap.size < (w.alloc (.cells #[.string s0, .slice a1 n1 c1, .slice a2 n2 c2, .slice a3 n3 c3, .string s4, .slice a4 n4 c4] 41)).heap.size := by rw [World.size_alloc]; exact Nat.lt_succ_self _
  have C0 : Hid (∀ W', Later (w.alloc (.cells #[.string s0, .slice a1 n1 c1, .slice a2 n2 c2, .slice a3 n3 c3, .string s4, .slice a4 n4 c4] 41)) W' → W'.cell? ⟨w.heap.size, 0, none⟩ = some (.string s0) ∧ W'.cell? ⟨w.heap.size, 1, none⟩ = some (.slice a1 n1 c1) ∧ W'.cell? ⟨w.heap.size, 2, none⟩ = some (.slice a2 n2 c2) ∧ W'.cell? ⟨w.heap.size, 3, none⟩ = some (.slice a3 n3 c3) ∧ W'.cell? ⟨w.heap.size, 4, none⟩ = some (.string s4) ∧ W'.cell? ⟨w.heap.size, 5, none⟩ = some (.slice a4 n4 c4)) := Lib.hid (fun W' q => ⟨by rw [q.cell (p := ⟨w.heap.size, 0, none⟩) hW0]; exact q0, by rw [q.cell (p := ⟨w.heap.size, 1, none⟩) hW0]; exact q1, by rw [q.cell (p := ⟨w.heap.size, 2, none⟩) hW0]; exact q2, by rw [q.cell (p := ⟨w.heap.size, 3, none⟩) hW0]; exact q3, by rw [q.cell (p := ⟨w.heap.size, 4, none⟩) hW0]; exact q4, by rw [q.cell (p := ⟨w.heap.size, 5, none⟩) hW0]; exact q5⟩)
  have A0 : Hid (Later w (w.alloc (.cells #[.string s0, .slice a1 n1 c1, .slice a2 n2 c2, .slice a3 n3 c3, .string s4, .slice a4 n4 c4] 41))) := Lib.hid ((Later.refl _).alloc _)
  clear hW0
  by_cases hsz : 1048576 < s.size
  · go_enter Tryd.func6, Tryd.ntmps6
    go_wp2_with fail
    go_ret
    exact ⟨rfl, A0.out⟩
  go_enter Tryd.func6, Tryd.ntmps6
  go_wp2_with fail
  generalize (w.alloc (.cells #[.string s0, .slice a1 n1 c1, .slice a2 n2 c2, .slice a3 n3 c3, .string s4, .slice a4 n4 c4] 41)) = W0 at C0 A0 q0 q1 q2 q3 q4 q5 ⊢
  clear q0 q1 q2 q3 q4 q5
  refine (SZ.out _ (show PgO W0 _ p from ?_)).mono ?_
  · obtain ⟨b1, d1, b2, d2, b3, d3, b4, d4, e, h1, h2, h3, h4, h5, h6⟩ := HP.out
    exact ⟨b1, d1, b2, d2, b3, d3, b4, d4, e, h1.later A0.out, h2.later A0.out, h3.later A0.out, h4.later A0.out, h5, h6⟩
  rintro e w1 ⟨rfl | ⟨r, rfl, hsh⟩, hb⟩
  · have B1 := Lib.hid hb
    obtain ⟨q0, q1, q2, q3, q4, q5⟩ := C0.out _ hb
    clear hb
    go_wp2_with fail
    go_ret
    exact ⟨rfl, Later.trans A0.out B1.out⟩
  · have B1 := Lib.hid (show Later W0 w1 from hb)
    have P0 := Lib.hid (HP.out.pgv hsh)
    have PW := Lib.hid (show ∀ W, Later W0 W → PgV W (.agg #[.string s0, .slice a1 n1 c1, .slice a2 n2 c2, .slice a3 n3 c3, .string s4, .slice a4 n4 c4]) p from fun W h => P0.out.later (Later.trans A0.out h))
    have HSH := Lib.hid hsh
    have hlen : p.lns.length ≤ 1048576 := by have := hsh.2.2.2.2.2.1; omega
    have SS : Hid (∀ u W, PgV W u p → Calls Tryd.prog 27 #[u, .string s] W fun e w' => e = .returned (.tuple #[.int .i64 (lnV p s.data.toList), .int .i64 (lnE p s.data.toList)]) ∧ Later W w') := Lib.hid (fun u W h => by have h2 := s_LineOf u p s.data.toList W h (by omega); rw [tx_ofS] at h2; exact h2)
    have IS : Hid (∀ u W, PgV W u p → Ops W → Calls Tryd.prog 22 #[u, .string s] W fun e w' => e = .returned (.tuple #[.int .i64 (lnV p s.data.toList), .int .i64 (lnE p s.data.toList)]) ∧ Later W w') := Lib.hid (fun u W h hW => by have h2 := i_LineOf u p s.data.toList W h hW (by omega); rw [tx_ofS] at h2; exact h2)

    obtain ⟨q0, q1, q2, q3, q4, q5⟩ := C0.out _ hb
    clear hb hsh
    go_wp2_with fail
    refine (TP.out _ (PW.out _ B1.out) HSH.out).mono ?_
    rintro e w2 ⟨u, rfl, hu, hb⟩
    have B2 := Lib.hid (Later.trans B1.out hb)
    have U2 := Lib.hid hu
    clear hb hu q0 q1 q2 q3 q4 q5
    obtain ⟨q0, q1, q2, q3, q4, q5⟩ := C0.out _ B2.out
    go_wp2_with fail
    refine (SS.out u _ U2.out).mono ?_
    rintro e w3 ⟨rfl, hb⟩
    have B3 := Lib.hid (Later.trans B2.out hb)
    generalize lnV p s.data.toList = V at IS ⊢
    generalize lnE p s.data.toList = E at IS ⊢
    clear SS
    clear hb U2 q0 q1 q2 q3 q4 q5
    obtain ⟨q0, q1, q2, q3, q4, q5⟩ := C0.out _ B3.out
    go_wp2_with fail
    refine (TP.out _ (PW.out _ B3.out) HSH.out).mono ?_
    rintro e w4 ⟨u2, rfl, hu, hb⟩
    have B4 := Lib.hid (Later.trans B3.out hb)
    obtain ⟨x1, y1, x2, y2, x3, y3, x4, y4, rfl⟩ := HS.out _ _ hu
    have U4 := Lib.hid hu
    clear hb hu q0 q1 q2 q3 q4 q5
    have F4 := Lib.hid (frP_new w4 [.string s0, .slice x1 n1 y1, .slice x2 n2 y2, .slice x3 n3 y3, .string s4, .slice x4 n4 y4] 27)
    have L4 : Hid (Later w4 (w4.alloc (.cells #[.string s0, .slice x1 n1 y1, .slice x2 n2 y2, .slice x3 n3 y3, .string s4, .slice x4 n4 y4] 27))) := Lib.hid ((Later.refl _).alloc _)
    obtain ⟨q0, q1, q2, q3, q4, q5⟩ := C0.out _ B4.out
    obtain ⟨o0, o1, o2, o3, o4, o5, _, _, _, _, _, _⟩ := F4.out.o6
    go_wp2_with fail
    refine calls_into (S := fun W => Later w4 W ∧ Fr w4.heap.size [.string s0, .slice x1 n1 y1, .slice x2 n2 y2, .slice x3 n3 y3, .string s4, .slice x4 n4 y4] W) ⟨L4.out, F4.out⟩ ?_
    clear L4 F4 o0 o1 o2 o3 o4 o5 q0 q1 q2 q3 q4 q5
    rintro W5 ⟨l5, f5⟩
    refine (IS.out _ _ (U4.out.later l5) (HX.out.later (Later.trans A0.out (Later.trans B4.out l5)))).mono ?_
    rintro e w6 ⟨rfl, hb⟩
    have B6 := Lib.hid (Later.trans B4.out (Later.trans l5 hb))
    have X6 := Lib.hid (U4.out.later (Later.trans l5 hb))
    have F6 := Lib.hid (fr_later f5 hb)
    clear hb l5 f5 U4
    obtain ⟨q0, q1, q2, q3, q4, q5⟩ := C0.out _ B6.out
    obtain ⟨o0, o1, o2, o3, o4, o5, _, _, _, _, _, _⟩ := F6.out.o6
    have KL : Hid (∀ W', Later w6 W' → (W'.cell? ⟨w.heap.size, 0, none⟩ = some (.string s0) ∧ W'.cell? ⟨w.heap.size, 1, none⟩ = some (.slice a1 n1 c1) ∧ W'.cell? ⟨w.heap.size, 2, none⟩ = some (.slice a2 n2 c2) ∧ W'.cell? ⟨w.heap.size, 3, none⟩ = some (.slice a3 n3 c3) ∧ W'.cell? ⟨w.heap.size, 4, none⟩ = some (.string s4) ∧ W'.cell? ⟨w.heap.size, 5, none⟩ = some (.slice a4 n4 c4)) ∧ (W'.cell? ⟨w4.heap.size, 0, none⟩ = some (.string s0) ∧ W'.cell? ⟨w4.heap.size, 1, none⟩ = some (.slice x1 n1 y1) ∧ W'.cell? ⟨w4.heap.size, 2, none⟩ = some (.slice x2 n2 y2) ∧ W'.cell? ⟨w4.heap.size, 3, none⟩ = some (.slice x3 n3 y3) ∧ W'.cell? ⟨w4.heap.size, 4, none⟩ = some (.string s4) ∧ W'.cell? ⟨w4.heap.size, 5, none⟩ = some (.slice x4 n4 y4))) := Lib.hid (fun W' q => ⟨C0.out _ (Later.trans B6.out q), by
      obtain ⟨o0, o1, o2, o3, o4, o5, _, _, _, _, _, _⟩ := (fr_later F6.out q).o6
      exact ⟨o0, o1, o2, o3, o4, o5⟩⟩)
    have eV : ∀ b : Bool, (b != b) = false := fun b => by simp
    have RL := Lib.hid (Later.refl w6)
    have PW6 : Hid (∀ W, Later w6 W → PgV W (.agg #[.string s0, .slice a1 n1 c1, .slice a2 n2 c2, .slice a3 n3 c3, .string s4, .slice a4 n4 c4]) p) := Lib.hid (fun W h => PW.out _ (Later.trans B6.out h))
    go_wp2_with fail
    go_region_held3 (fun W' => (W'.cell? ⟨w.heap.size, 0, none⟩ = some (.string s0) ∧ W'.cell? ⟨w.heap.size, 1, none⟩ = some (.slice a1 n1 c1) ∧ W'.cell? ⟨w.heap.size, 2, none⟩ = some (.slice a2 n2 c2) ∧ W'.cell? ⟨w.heap.size, 3, none⟩ = some (.slice a3 n3 c3) ∧ W'.cell? ⟨w.heap.size, 4, none⟩ = some (.string s4) ∧ W'.cell? ⟨w.heap.size, 5, none⟩ = some (.slice a4 n4 c4)) ∧ (W'.cell? ⟨w4.heap.size, 0, none⟩ = some (.string s0) ∧ W'.cell? ⟨w4.heap.size, 1, none⟩ = some (.slice x1 n1 y1) ∧ W'.cell? ⟨w4.heap.size, 2, none⟩ = some (.slice x2 n2 y2) ∧ W'.cell? ⟨w4.heap.size, 3, none⟩ = some (.slice x3 n3 y3) ∧ W'.cell? ⟨w4.heap.size, 4, none⟩ = some (.string s4) ∧ W'.cell? ⟨w4.heap.size, 5, none⟩ = some (.slice x4 n4 y4))) (exact KL.out _ (by repeat (first | (with_reducible exact Later.refl _) | (with_reducible exact Hid.out (by assumption)) | (with_reducible refine Later.alloc ?_ _) | (with_reducible refine Later.setCell ?_ (by simp; omega) _) | (with_reducible refine Later.setCell ?_ (by simp) _) | (with_reducible refine Later.drewN ?_ _) | (with_reducible refine Later.drew ?_) | (with_reducible refine Later.trans ?_ (Hid.out (by assumption))))))
      (first
        | (go_at_call 25; refine (TP.out _ (PW6.out _ (by repeat (first | (with_reducible exact Later.refl _) | (with_reducible exact Hid.out (by assumption)) | (with_reducible refine Later.alloc ?_ _) | (with_reducible refine Later.setCell ?_ (by simp; omega) _) | (with_reducible refine Later.setCell ?_ (by simp) _) | (with_reducible refine Later.drewN ?_ _) | (with_reducible refine Later.drew ?_) | (with_reducible refine Later.trans ?_ (Hid.out (by assumption)))))) HSH.out).mono ?_; rintro e w7 ⟨u7, rfl, hu, hb⟩; have U7 := Lib.hid hu; have H7 := Lib.hid hb; clear hb hu)
        | (go_at_call 26; refine (l_eqProgram_same _ _ p _ (X6.out.later (by repeat (first | (with_reducible exact Later.refl _) | (with_reducible exact Hid.out (by assumption)) | (with_reducible refine Later.alloc ?_ _) | (with_reducible refine Later.setCell ?_ (by simp; omega) _) | (with_reducible refine Later.setCell ?_ (by simp) _) | (with_reducible refine Later.drewN ?_ _) | (with_reducible refine Later.drew ?_) | (with_reducible refine Later.trans ?_ (Hid.out (by assumption)))))) (U7.out.later (by repeat (first | (with_reducible exact Later.refl _) | (with_reducible exact Hid.out (by assumption)) | (with_reducible refine Later.alloc ?_ _) | (with_reducible refine Later.setCell ?_ (by simp; omega) _) | (with_reducible refine Later.setCell ?_ (by simp) _) | (with_reducible refine Later.drewN ?_ _) | (with_reducible refine Later.drew ?_) | (with_reducible refine Later.trans ?_ (Hid.out (by assumption))))))).mono ?_; rintro e w8 ⟨rfl, hb⟩; have H8 := Lib.hid hb; clear hb))
    all_goals
      go_wp2
      go_ret
      exact ⟨rfl, Later.trans A0.out (Later.trans B6.out (by repeat (first | (with_reducible exact Later.refl _) | (with_reducible exact Hid.out (by assumption)) | (with_reducible refine Later.alloc ?_ _) | (with_reducible refine Later.setCell ?_ (by simp; omega) _) | (with_reducible refine Later.setCell ?_ (by simp) _) | (with_reducible refine Later.drewN ?_ _) | (with_reducible refine Later.drew ?_) | (with_reducible refine Later.trans ?_ (Hid.out (by assumption))))))⟩
end Go.Proofs.YtokipobjpinhmaaDoor
