/- The draw of faults (gen/gen_ilc.py). -/
import Derived.Test.YtpeebgkgccacbaaIlB
import Derived.Test.YtpeebgkgccacbaaIkS
namespace Go.Proofs.Ytpeebgkgccacbaa
open Go.RowKit
set_option maxHeartbeats 4000000
set_option maxRecDepth 100000
set_option linter.unusedVariables false
set_option linter.unusedSimpArgs false
/-- what hands back drawn faults leaves -/
def DrawnFs (w : World) (B : Nat) (a : Option Addr) (len cap : Nat) (e : Ending) (w' : World) : Prop :=
  ∃ (v : Value) (n : Nat) (l : List Int), e = .returned v ∧ OwnF w' w.heap.size v n l ∧ Src w' B a len cap ∧ w.grownBy w' (some B)
theorem OwnF.kept {w w' : World} {base n : Nat} {v : Value} {l : List Int} {row : Option Nat} (h : OwnF w base v n l) (hg : w.grownBy w' row) (hr : ∀ k, v.ownBlock = some k → row ≠ some k) : OwnF w' base v n l := OwnW.kept h hg hr
theorem OwnF.alloc {w : World} {base n : Nat} {v : Value} {l : List Int} (h : OwnF w base v n l) (ob : Obj) : OwnF (w.alloc ob) base v n l := OwnW.later h ((Later.refl _).alloc ob)
theorem OwnF.lt {w : World} {base n : Nat} {v : Value} {l : List Int} (h : OwnF w base v n l) : ∀ k, v.ownBlock = some k → base ≤ k ∧ k < w.heap.size := OwnW.lt h
theorem st_ownF {W W1 w0 : World} {B : Nat} {a : Option Addr} {len cap n : Nat} {v : Value} {l : List Int} (h : St [] B a len cap w0 W) (O : OwnF W w0.heap.size v n l) (hg : W.grownBy W1 v.ownBlock) : St [] B a len cap w0 W1 :=
  h.ownO hg (fun k e => ⟨(O.lt k e).1, fun x hx => by simp at hx⟩)
/-- append(out, f), f a fault -/
theorem appF {ops : Array Oper} {rest : List Oper} {o : Oper} {act : Act} {Q : Exit → Act → World → Prop} (hgd : o.guard = none) (s x : Operand)
    (ho : o.op = .call { callee := .builtin .append, args := #[s, x], argTypes := #[49, 49] })
    (base : Nat) (W : World) (T' : TypeId) (v : Value) (n : Nat) (l : List Int) (y z u : Int) (hown : OwnF W base v n l) (hs : act.eval s = v) (hx : act.eval x = .slice (some ⟨W.heap.size, 0, none⟩) 1 1) (hy : InR y) (hz : InR z) (hu : InR u) (hl : n + 1 ≤ 1000000000) (hbase : base ≤ W.heap.size)
    (h : ∀ v' w', OwnF w' base v' (n + 1) (l ++ [y, z, u]) → W.grownBy w' v.ownBlock → wpList Try.prog ops Q rest (act.put o.dst v') w') : wpList Try.prog ops Q (o :: rest) act (W.alloc (.cells #[.int .i64 y, .int .i64 z, .int .i64 u] T')) :=
  appW hgd s x _ _ _ 3 24 info_flt Try.underlying49 rfl (by decide) (by decide) ho base W T' v n 1 l [y, z, u] _ rfl rfl hown hs hx (fun q hq => by simp at hq; rcases hq with rfl | rfl | rfl <;> assumption) hl hbase h
/-- append(out, f, g) -/
theorem appF2 {ops : Array Oper} {rest : List Oper} {o : Oper} {act : Act} {Q : Exit → Act → World → Prop} (hgd : o.guard = none) (s x : Operand)
    (ho : o.op = .call { callee := .builtin .append, args := #[s, x], argTypes := #[49, 49] })
    (base : Nat) (W : World) (T' : TypeId) (v : Value) (n : Nat) (l : List Int) (y z u y' z' u' : Int) (hown : OwnF W base v n l) (hs : act.eval s = v) (hx : act.eval x = .slice (some ⟨W.heap.size, 0, none⟩) 2 2) (hy : InR y) (hz : InR z) (hu : InR u) (hy' : InR y') (hz' : InR z') (hu' : InR u') (hl : n + 2 ≤ 1000000000) (hbase : base ≤ W.heap.size)
    (h : ∀ v' w', OwnF w' base v' (n + 2) (l ++ [y, z, u, y', z', u']) → W.grownBy w' v.ownBlock → wpList Try.prog ops Q rest (act.put o.dst v') w') : wpList Try.prog ops Q (o :: rest) act (W.alloc (.cells #[.int .i64 y, .int .i64 z, .int .i64 u, .int .i64 y', .int .i64 z', .int .i64 u'] T')) :=
  appW hgd s x _ _ _ 3 24 info_flt Try.underlying49 rfl (by decide) (by decide) ho base W T' v n 2 l [y, z, u, y', z', u'] _ rfl rfl hown hs hx (fun q hq => by simp at hq; rcases hq with rfl | rfl | rfl | rfl | rfl | rfl <;> assumption) hl hbase h
set_option maxRecDepth 100000 in
theorem s_l11DrawFaults (B : Nat) (a : Option Addr) (len cap : Nat) (Bt : Int) (hBt : InR Bt) (w : World) (hs : Src w B a len cap) :
    Calls Try.prog 28 #[.pointer (some ⟨B, 0, none⟩), .int .i64 Bt] w (DrawnFs w B a len cap) := by
  have HS := Lib.hid hs
  have hBlt := hs.lt
  obtain ⟨hBt1, hBt2⟩ := hBt
  clear hs
  go_enter Try.func28, Try.ntmps28
  go_wp2_with fail
  have T0 := Lib.hid ((St.begin HS.out).alloc (.cells #[] 62))
  have O0 : Hid (OwnF (w.alloc (.cells #[] 62)) w.heap.size (.slice (some ⟨w.heap.size, 0, none⟩) 0 0) 0 []) := Lib.hid (ownW_new w w.heap.size 3 _ (Nat.le_refl _))
  go_loopw [5, 6] (fun v i wr => ∃ (l : List Int) (n k : Nat), i = .int .i64 k ∧ k ≤ 7 ∧ n ≤ 2 * k ∧ OwnF wr w.heap.size v n l ∧ St [] B a len cap w wr) (fun _ i _ => 9 - (intOf i).toNat)
  case atStart => exact ⟨[], 0, 0, rfl, by omega, by omega, O0.out, T0.out⟩
  case round =>
    clear T0 O0
    obtain ⟨l, n, k, rfl, hk, hn, h1, ht⟩ := hrel
    have O1 := Lib.hid h1; have T1 := Lib.hid ht
    have hz1 := ht.le
    clear h1 ht
    by_cases hlt : (k : Int) < Bt ∧ k < 7
    · obtain ⟨hkB, hk7⟩ := hlt
      go_wp2_with fail
      refine (s_Next B a len cap 6 _ T1.out.src (by omega) (by omega)).mono ?_
      rintro e w2 ⟨c, rfl, c0, c1, c2, src, gr⟩
      have hc := c1 (by omega)
      have T2 := Lib.hid (T1.out.call src gr)
      have O2 := Lib.hid (O1.out.kept gr (fun k hk e => by have := (O1.out.lt k hk).1; have e := Option.some.inj e; omega))
      clear gr src c1 c2 T1 O1
      by_cases k0 : c = 0
      · subst k0
        go_wp2_with fail
        refine (s_Next B a len cap 2 _ T2.out.src (by omega) (by omega)).mono ?_
        rintro e w3 ⟨x, rfl, x0, x1, x2, src, gr⟩
        have hx := x1 (by omega)
        have T3 := Lib.hid (T2.out.call src gr)
        have O3 := Lib.hid (O2.out.kept gr (fun k hk e => by have := (O2.out.lt k hk).1; have e := Option.some.inj e; omega))
        clear gr src x1 x2 T2 O2
        go_wp2_with fail
        refine (s_Next B a len cap 2 _ T3.out.src (by omega) (by omega)).mono ?_
        rintro e w4 ⟨y, rfl, y0, y1, y2, src, gr⟩
        have hy := y1 (by omega)
        have T4 := Lib.hid (T3.out.call src gr)
        have O4 := Lib.hid (O3.out.kept gr (fun k hk e => by have := (O3.out.lt k hk).1; have e := Option.some.inj e; omega))
        clear gr src y1 y2 T3 O3
        have hzz4 := T4.out.le
        go_wp2_with (at_builtin; go_must (refine appF rfl _ _ rfl w.heap.size _ _ _ n _ _ _ _ O4.out rfl rfl (by first | assumption | exact ⟨by omega, by omega⟩) (by first | assumption | exact ⟨by omega, by omega⟩) (by first | assumption | exact ⟨by omega, by omega⟩) (by omega) (by omega) ?_; intro v5 w5 ho hg; have O5 := Lib.hid ho; have T5 := Lib.hid (st_ownF T4.out O4.out hg); clear ho hg))
        go_roundw
        case rel => exact ⟨_, n + 1, k + 1, by go_num, by omega, by omega, O5.out, T5.out⟩
        case measure => simp [intOf]; omega
      · have e0 : (c == 0) = false := by simpa using k0
        by_cases k1 : c = 1
        · subst k1
          go_wp2_with fail
          refine (s_Next B a len cap 4 _ T2.out.src (by omega) (by omega)).mono ?_
          rintro e w3 ⟨d, rfl, d0, d1, d2, src, gr⟩
          have hd := d1 (by omega)
          have T3 := Lib.hid (T2.out.call src gr)
          have O3 := Lib.hid (O2.out.kept gr (fun k hk e => by have := (O2.out.lt k hk).1; have e := Option.some.inj e; omega))
          clear gr src d1 d2 T2 O2
          by_cases kd : d = 0
          · subst kd
            go_wp2_with fail
            refine (s_Next B a len cap 3 _ T3.out.src (by omega) (by omega)).mono ?_
            rintro e w4 ⟨u, rfl, u0, u1, u2, src, gr⟩
            have hu := u1 (by omega)
            have T4 := Lib.hid (T3.out.call src gr)
            have O4 := Lib.hid (O3.out.kept gr (fun k hk e => by have := (O3.out.lt k hk).1; have e := Option.some.inj e; omega))
            clear gr src u1 u2 T3 O3
            have q1 : 0 ≤ u.tdiv 2 ∧ u.tdiv 2 ≤ 1 := by rw [Int.tdiv_eq_ediv_of_nonneg u0]; omega
            have q3 : 0 ≤ u / 2 ∧ u / 2 ≤ 1 := by omega
            obtain ⟨q1a, q1b⟩ := q1; obtain ⟨q3a, q3b⟩ := q3
            have hzz4 := T4.out.le
            go_wp2_with (at_builtin; go_must (refine appF2 rfl _ _ rfl w.heap.size _ _ _ n _ _ _ _ _ _ _ O4.out rfl rfl (by first | assumption | exact ⟨by omega, by omega⟩) (by first | assumption | exact ⟨by omega, by omega⟩) (by first | assumption | exact ⟨by omega, by omega⟩) (by first | assumption | exact ⟨by omega, by omega⟩) (by first | assumption | exact ⟨by omega, by omega⟩) (by first | assumption | exact ⟨by omega, by omega⟩) (by omega) (by omega) ?_; intro v5 w5 ho hg; have O5 := Lib.hid ho; have T5 := Lib.hid (st_ownF T4.out O4.out hg); clear ho hg))
            go_roundw
            case rel => exact ⟨_, n + 2, k + 1, by go_num, by omega, by omega, O5.out, T5.out⟩
            case measure => simp [intOf]; omega
          · have ed : (d == 0) = false := by simpa using kd
            go_wp2_with fail
            go_roundw
            case rel => exact ⟨_, n, k + 1, by go_num, by omega, by omega, O3.out, T3.out⟩
            case measure => simp [intOf]; omega
        · have e1 : (c == 1) = false := by simpa using k1
          go_wp2_with fail
          go_roundw
          case rel => exact ⟨_, n, k + 1, by go_num, by omega, by omega, O2.out, T2.out⟩
          case measure => simp [intOf]; omega
    · go_wp2_with fail
      all_goals
        refine (s_Next B a len cap 40 _ T1.out.src (by omega) (by omega)).mono ?_
        rintro e w2 ⟨c, rfl, c0, c1, c2, src, gr⟩
        have hc := c1 (by omega)
        have T2 := Lib.hid (T1.out.call src gr)
        have O2 := Lib.hid (O1.out.kept gr (fun k hk e => by have := (O1.out.lt k hk).1; have e := Option.some.inj e; omega))
        clear gr src c1 c2 T1 O1
        by_cases k0 : c = 0
        · subst k0
          go_wp2_with fail
          have hl3 := sl_new w2 [-1, 0, Bt] 2 (by simp) (by intro x hx; simp at hx; unfold InR; omega)
          refine (s_Pick B a len cap ⟨w2.heap.size, 0, none⟩ 3 3 _ _ (T2.out.src.alloc _) hl3 (by have := T2.out.src.lt; show w2.heap.size ≠ B; omega) (by omega)).mono ?_
          rintro e w3 ⟨x, rfl, hx, src, gr⟩
          have T3 := Lib.hid ((T2.out.alloc _).call src gr)
          have O3 := Lib.hid ((O2.out.alloc _).kept gr (fun k hk e => by have := (O2.out.lt k hk).1; have e := Option.some.inj e; omega))
          have Ix : InR x := by simp at hx; unfold InR; omega
          clear gr src hl3 hx T2 O2
          go_wp2_with fail
          have hl3 := sl_new w3 [0, 1, 2] 2 (by simp) (by intro x hx; simp at hx; unfold InR; omega)
          refine (s_Pick B a len cap ⟨w3.heap.size, 0, none⟩ 3 3 _ _ (T3.out.src.alloc _) hl3 (by have := T3.out.src.lt; show w3.heap.size ≠ B; omega) (by omega)).mono ?_
          rintro e w4 ⟨y, rfl, hy, src, gr⟩
          have T4 := Lib.hid ((T3.out.alloc _).call src gr)
          have O4 := Lib.hid ((O3.out.alloc _).kept gr (fun k hk e => by have := (O3.out.lt k hk).1; have e := Option.some.inj e; omega))
          have Iy : InR y := by simp at hy; unfold InR; omega
          clear gr src hl3 hy T3 O3
          go_wp2_with fail
          refine (s_Next B a len cap 3 _ T4.out.src (by omega) (by omega)).mono ?_
          rintro e w5 ⟨z, rfl, z0, z1, z2, src, gr⟩
          have hz := z1 (by omega)
          have T5 := Lib.hid (T4.out.call src gr)
          have O5 := Lib.hid (O4.out.kept gr (fun k hk e => by have := (O4.out.lt k hk).1; have e := Option.some.inj e; omega))
          clear gr src z1 z2 T4 O4
          have hzz5 := T5.out.le
          go_wp2_with (at_builtin; go_must (refine appF rfl _ _ rfl w.heap.size _ _ _ n _ _ _ _ O5.out rfl rfl (by first | assumption | exact ⟨by omega, by omega⟩) (by first | assumption | exact ⟨by omega, by omega⟩) (by first | assumption | exact ⟨by omega, by omega⟩) (by omega) (by omega) ?_; intro v6 w6 ho hg; have O6 := Lib.hid ho; have T6 := Lib.hid (st_ownF T5.out O5.out hg); clear ho hg))
          go_ret
          exact ⟨_, n + 1, _, rfl, O6.out, T6.out.src, T6.out.grown⟩
        · have e0 : (c == 0) = false := by simpa using k0
          by_cases k1 : c = 1
          · subst k1
            have hzn := T2.out.le
            have O3 : Hid (OwnF (w2.alloc (.cells #[] 62)) w.heap.size (.slice (some ⟨w2.heap.size, 0, none⟩) 0 0) 0 []) := Lib.hid (ownW_new w2 w.heap.size 3 _ hzn)
            have T3 := Lib.hid (T2.out.alloc (.cells #[] 62))
            clear T2 O2 hzn
            go_wp2_with fail
            go_loopw [5, 7] (fun v i wr => ∃ (l : List Int) (k : Nat), i = .int .i64 k ∧ k ≤ 9 ∧ OwnF wr w.heap.size v k l ∧ St [] B a len cap w wr) (fun _ i _ => 11 - (intOf i).toNat)
            case atStart => exact ⟨[], 0, rfl, by omega, O3.out, T3.out⟩
            case round =>
              clear T3 O3 hk hn hlt
              obtain ⟨l', k', rfl, hk', h1, ht⟩ := hrel
              have O4 := Lib.hid h1; have T4 := Lib.hid ht
              clear h1 ht
              go_wp2_with fail
              refine (s_Next B a len cap 2 _ T4.out.src (by omega) (by omega)).mono ?_
              rintro e w5 ⟨r, rfl, r0, r1, r2, src, gr⟩
              have hr := r1 (by omega)
              have T5 := Lib.hid (T4.out.call src gr)
              have O5 := Lib.hid (O4.out.kept gr (fun k hk e => by have := (O4.out.lt k hk).1; have e := Option.some.inj e; omega))
              clear gr src r1 r2 T4 O4
              by_cases hr : (k' : Int) < 8 + r
              · have q1 : 0 ≤ (k' : Int).tdiv 2 ∧ (k' : Int).tdiv 2 ≤ 9 := by rw [Int.tdiv_eq_ediv_of_nonneg (by omega)]; omega
                have q2 : 0 ≤ (k' : Int).tmod 2 ∧ (k' : Int).tmod 2 ≤ 1 := by rw [Int.tmod_eq_emod_of_nonneg (by omega)]; omega
                obtain ⟨q1a, q1b⟩ := q1; obtain ⟨q2a, q2b⟩ := q2
                have hzz5 := T5.out.le
                go_wp2_with (at_builtin; go_must (refine appF rfl _ _ rfl w.heap.size _ _ _ k' _ _ _ _ O5.out rfl rfl (by first | assumption | exact ⟨by omega, by omega⟩) (by first | assumption | exact ⟨by omega, by omega⟩) (by first | assumption | exact ⟨by omega, by omega⟩) (by omega) (by omega) ?_; intro v6 w6 ho hg; have O6 := Lib.hid ho; have T6 := Lib.hid (st_ownF T5.out O5.out hg); clear ho hg))
                go_roundw
                case rel => exact ⟨_, k' + 1, by go_num, by omega, O6.out, T6.out⟩
                case measure => simp [intOf]; omega
              · go_wp2_with fail
                go_ret
                exact ⟨_, k', _, rfl, O5.out, T5.out.src, T5.out.grown⟩
          · have e1 : (c == 1) = false := by simpa using k1
            go_wp2_with fail
            go_ret
            exact ⟨_, n, _, rfl, O2.out, T2.out.src, T2.out.grown⟩
end Go.Proofs.Ytpeebgkgccacbaa
