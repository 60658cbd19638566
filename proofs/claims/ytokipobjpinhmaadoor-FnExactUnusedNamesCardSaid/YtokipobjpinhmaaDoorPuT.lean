/- Targets of lines; a text looked up in a list: of the program. -/
import Derived.Test.YtokipobjpinhmaaDoorPuM
import Derived.Test.YtokipobjpinhmaaDoorPsy
import Derived.Test.YtokipobjpinhmaaDoorOwnT
namespace Go.Proofs.YtokipobjpinhmaaDoor
open Go.RowKit Go.Shelf
set_option maxHeartbeats 4000000
set_option maxRecDepth 100000
set_option linter.unusedVariables false
set_option linter.unusedSimpArgs false
theorem eqx (x s : List UInt8) : ((tx x).toList == (tx s).toList) = decide (x = s) := by
  rw [Lib.toList_data, Lib.toList_data]
  show (x == s) = _
  by_cases h : x = s <;> simp [h]
theorem tgs_take (M : List Lne) (k : Nat) (h : k < M.length) : (tgs M).take (k + 1) = (tgs M).take k ++ [ltx M k] := by
  have h2 : k < (tgs M).length := by rw [tgs_len]; exact h
  rw [List.take_succ_eq_append_getElem h2, wx_at (tgs M) k h2, tgs_at M k h]
theorem i_IndexT (a : Option Addr) (n cap : Nat) (W : List (List UInt8)) (x : List UInt8) (w : World) (hs : Sts w a n W) :
    Calls Tryd.prog 58 #[.slice a n cap, .string (tx x)] w fun e w' => e = .returned (.int .i64 (ixV W x)) ∧ w = w' := by
  have HS := Lib.hid hs
  have HL := Lib.hid hs.1
  have hn := hs.2.1
  have EQ := Lib.hid (fun y => eqx x y)
  have RH := Lib.hid (fun j h1 h2 h3 => ixV_hit W x j h1 h2 h3)
  have RM := Lib.hid (fun h => ixV_miss W x h)
  obtain ⟨X, hX⟩ : ∃ X, X = tx x := ⟨_, rfl⟩
  rw [← hX] at EQ ⊢
  clear hs hX
  go_enter Tryd.func58, Tryd.ntmps58
  go_wp2_with fail
  go_loop [8] (fun i => ∃ k : Nat, k ≤ n ∧ i = .int .i64 k ∧ Hid (∀ j, j < k → wx W j ≠ x)) (fun i => n - (intOf i).toNat)
  case atStart => exact ⟨0, by omega, rfl, Lib.hid (by intro j h; omega)⟩
  case round =>
    obtain ⟨k, hk, rfl, HI⟩ := hrel
    by_cases hlt : k < n
    · obtain ⟨b, off, rfl, c0⟩ := HS.out.at k hlt
      have EK := EQ.out (wx W k)
      have HWK := Lib.hid (rfl : wx W k = wx W k)
      obtain ⟨y, hy⟩ : ∃ y, y = tx (wx W k) := ⟨_, rfl⟩
      rw [← hy] at c0 EK
      clear hy
      by_cases he : x = wx W k
      · rw [decide_eq_true he] at EK
        have HR := Lib.hid (RH.out k (by rw [HL.out]; exact hlt) he.symm HI.out)
        clear he
        go_wp2_with fail
        all_goals
          go_ret
          exact ⟨by rw [HR.out]; rfl, rfl⟩
      · rw [decide_eq_false he] at EK
        have HE := Lib.hid he
        clear he
        go_wp2_with fail
        go_roundw
        case rel =>
          refine ⟨k + 1, by omega, by go_num, Lib.hid ?_⟩
          intro q hq
          rcases Nat.lt_or_ge q k with h1 | h1
          · exact HI.out q h1
          · obtain rfl : q = k := by omega
            exact fun e => HE.out e.symm
        case measure => simp [intOf]; omega
    · obtain rfl : k = n := by omega
      have HR := Lib.hid (RM.out (by rw [HL.out]; exact HI.out))
      go_wp2_with fail
      all_goals
        go_ret
        exact ⟨by rw [HR.out]; rfl, rfl⟩
/-- such a slice, handed back -/
def RetTs (w : World) (W : List (List UInt8)) (e : Ending) (w' : World) : Prop := ∃ u, e = .returned u ∧ OwnT w' w.heap.size u W ∧ Later w w'
theorem i_targets (v : Value) (p : Prg) (w : World) (hp : PgV w v p) (hl : p.lns.length ≤ 1048576) : Calls Tryd.prog 59 #[v] w (RetTs w (tgs p.lns)) := by
  obtain ⟨a1, c1, a2, c2, a3, c3, a4, c4, rfl, h1, h2, h3, h4, h5, h6⟩ := hp
  have P4 := Lib.hid h4
  have HK := Lib.hid (fun k h => tgs_take p.lns k h)
  have HF : Hid ((tgs p.lns).take p.lns.length = tgs p.lns) := Lib.hid (List.take_of_length_le (by rw [tgs_len]; exact Nat.le_refl _))
  have HZ : Hid (∀ k, k ≤ p.lns.length → ((tgs p.lns).take k).length = k) := Lib.hid (fun k h => by rw [List.length_take, tgs_len]; omega)
  obtain ⟨s0, hs0⟩ : ∃ q, q = tx p.nm := ⟨_, rfl⟩
  obtain ⟨s4, hs4⟩ : ∃ q, q = tx p.grd := ⟨_, rfl⟩
  obtain ⟨n1, hn1⟩ : ∃ q, q = p.ins.length := ⟨_, rfl⟩
  obtain ⟨n2, hn2⟩ : ∃ q, q = p.vrs.length := ⟨_, rfl⟩
  obtain ⟨n3, hn3⟩ : ∃ q, q = p.outs.length := ⟨_, rfl⟩
  obtain ⟨n4, hn4⟩ : ∃ q, q = p.lns.length := ⟨_, rfl⟩
  rw [← hs0, ← hs4, ← hn1, ← hn2, ← hn3, ← hn4]
  rw [← hn4] at HK HF HZ P4 hl
  clear hs0 hs4 hn1 hn2 hn3 hn4 h1 h2 h3 h4 h5 h6
  generalize p.lns = M at *
  have q5 : (w.alloc (.cells #[.string s0, .slice a1 n1 c1, .slice a2 n2 c2, .slice a3 n3 c3, .string s4, .slice a4 n4 c4] 27)).cell? ⟨w.heap.size, 5, none⟩ = some (.slice a4 n4 c4) := by rw [cell_of_row _ _ 5 _ _ (0, 0) (heap_alloc_new w _)]; rfl
  have A0 : Hid (Later w (w.alloc (.cells #[.string s0, .slice a1 n1 c1, .slice a2 n2 c2, .slice a3 n3 c3, .string s4, .slice a4 n4 c4] 27))) := Lib.hid ((Later.refl _).alloc _)
  go_enter Tryd.func59, Tryd.ntmps59
  go_wp2_with fail
  go_loopw [3, 9] (fun s i wr => ∃ k : Nat, k ≤ n4 ∧ i = .int .i64 k ∧ OwnT wr w.heap.size s ((tgs M).take k) ∧ Later w wr) (fun _ i _ => n4 - (intOf i).toNat)
  case atStart => exact ⟨0, by omega, rfl, ⟨rfl, .inl ⟨rfl, rfl⟩⟩, A0.out⟩
  case round =>
    obtain ⟨k, hk, rfl, ho, hb⟩ := hrel
    have B3 := Lib.hid hb
    have O3 := Lib.hid ho
    clear ho
    by_cases hlt : k < n4
    · obtain ⟨b, off, ta, tc, rfl, c0, c1, c2⟩ := (P4.out.later hb).2.2.1 k hlt
      have HE := Lib.hid (HK.out k hlt)
      have hz := HZ.out k hk
      obtain ⟨y, hy⟩ : ∃ y, y = ltx M k := ⟨_, rfl⟩
      obtain ⟨q, hq⟩ : ∃ y, y = (lrx M k).length := ⟨_, rfl⟩
      rw [← hy] at c0 HE; rw [← hq] at c1
      obtain ⟨Y, hY⟩ : ∃ Y, Y = tx y := ⟨_, rfl⟩
      have HY := Lib.hid hY
      rw [← hY] at c0
      clear hy hq c2 hY hb
      go_wp2_with (at_builtin; go_must (rw [HY.out]; refine app1T rfl _ _ rfl w.heap.size _ _ _ ((tgs M).take k) y (O3.out.later (by repeat (first | (with_reducible exact Later.refl _) | (with_reducible exact Hid.out (by assumption)) | (with_reducible refine Later.alloc ?_ _) | (with_reducible refine Later.setCell ?_ (by simp; omega) _) | (with_reducible refine Later.setCell ?_ (by simp) _) | (with_reducible refine Later.drewN ?_ _) | (with_reducible refine Later.drew ?_) | (with_reducible refine Later.trans ?_ (Hid.out (by assumption)))))) rfl (by first | rfl | (simp only [World.heap_drewN, World.size_alloc]; rfl)) (by omega) (Later.size (by repeat (first | (with_reducible exact Later.refl _) | (with_reducible exact Hid.out (by assumption)) | (with_reducible refine Later.alloc ?_ _) | (with_reducible refine Later.setCell ?_ (by simp; omega) _) | (with_reducible refine Later.setCell ?_ (by simp) _) | (with_reducible refine Later.drewN ?_ _) | (with_reducible refine Later.drew ?_) | (with_reducible refine Later.trans ?_ (Hid.out (by assumption)))))) ?_; intro v6 w6 ho hgr))
      have O6 := Lib.hid ho
      rw [← HE.out] at O6
      have B6 : Hid (Later w w6) := Lib.hid (Below.grown (show Later w _ from (by repeat (first | (with_reducible exact Later.refl _) | (with_reducible exact Hid.out (by assumption)) | (with_reducible refine Later.alloc ?_ _) | (with_reducible refine Later.setCell ?_ (by simp; omega) _) | (with_reducible refine Later.setCell ?_ (by simp) _) | (with_reducible refine Later.drewN ?_ _) | (with_reducible refine Later.drew ?_) | (with_reducible refine Later.trans ?_ (Hid.out (by assumption)))))) hgr (Later.size (by repeat (first | (with_reducible exact Later.refl _) | (with_reducible exact Hid.out (by assumption)) | (with_reducible refine Later.alloc ?_ _) | (with_reducible refine Later.setCell ?_ (by simp; omega) _) | (with_reducible refine Later.setCell ?_ (by simp) _) | (with_reducible refine Later.drewN ?_ _) | (with_reducible refine Later.drew ?_) | (with_reducible refine Later.trans ?_ (Hid.out (by assumption)))))) (fun j hj => (O3.out.lt j hj).1))
      clear ho hgr
      go_roundw
      case rel => exact ⟨k + 1, by omega, by go_num, O6.out, B6.out⟩
      case measure => simp [intOf]; omega
    · obtain rfl : k = n4 := by omega
      clear hb
      go_wp2_with fail
      go_ret
      exact ⟨_, rfl, by rw [← HF.out]; exact O3.out, B3.out⟩
end Go.Proofs.YtokipobjpinhmaaDoor
