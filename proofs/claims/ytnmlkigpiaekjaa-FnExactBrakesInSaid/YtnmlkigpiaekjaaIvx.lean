/- Slices of intervals, as the laws compare, mark and read them; one interval appended. -/
import Derived.Test.YtnmlkigpiaekjaaWd
import Derived.Test.YtnmlkigpiaekjaaIvL
import Derived.Test.YtnmlkigpiaekjaaHeld
namespace Go.Proofs.Ytnmlkigpiaekjaa
open Go.RowKit
set_option maxHeartbeats 2000000
set_option linter.unusedVariables false
set_option linter.unusedSimpArgs false
theorem info_iv : (Try.prog.info? 28).map (fun i => (i.zero, i.size, i.bytes)) = some (some (.agg #[.int .i64 0, .int .i64 0]), 2, 16) := by kernel_rfl
/-- a slice of intervals of the call's own -/
def OwnI (w : World) (base : Nat) (v : Value) (n : Nat) (l : List Int) : Prop := OwnW w base 28 2 v n l
/-- append(out, e) -/
theorem appI {ops : Array Oper} {rest : List Oper} {o : Oper} {act : Act} {Q : Exit → Act → World → Prop} (hgd : o.guard = none) (s x : Operand)
    (ho : o.op = .call { callee := .builtin .append, args := #[s, x], argTypes := #[31, 31] })
    (base : Nat) (W : World) (T' : TypeId) (v : Value) (n : Nat) (l : List Int) (y z : Int) (hown : OwnI W base v n l) (hs : act.eval s = v) (hx : act.eval x = .slice (some ⟨W.heap.size, 0, none⟩) 1 1) (hy : InR y) (hz : InR z) (hl : n + 1 ≤ 1000000000) (hbase : base ≤ W.heap.size)
    (h : ∀ v' w', OwnI w' base v' (n + 1) (l ++ [y, z]) → W.grownBy w' v.ownBlock → wpList Try.prog ops Q rest (act.put o.dst v') w') : wpList Try.prog ops Q (o :: rest) act (W.alloc (.cells #[.int .i64 y, .int .i64 z] T')) :=
  appW hgd s x _ _ _ 2 16 info_iv Try.underlying31 rfl (by decide) (by decide) ho base W T' v n 1 l [y, z] _ rfl rfl hown hs hx (fun u hu => by simp at hu; rcases hu with rfl | rfl <;> assumption) hl hbase h
theorem l_eqInterval_same2 (a b : Int) (w : World) : Calls Try.prog 52 #[.agg #[.int .i64 a, .int .i64 b], .agg #[.int .i64 a, .int .i64 b]] w fun e w' => e = .returned (.bool true) ∧ Later w w' :=
  (l_eqInterval a b a b w).mono fun e w' ⟨h, k⟩ => ⟨h.trans (ret_b (by simp)), k⟩
theorem l_eqIntervalS_same (a b : Option Addr) (n cap m cap' : Nat) (l : List Int) (w : World) (hs : Wd w a n 2 l) (ht : Wd w b m 2 l) :
    Calls Try.prog 22 #[.slice a n cap, .slice b m cap'] w fun e w' => e = .returned (.bool true) ∧ Later w w' := by
  have hn := hs.1; have hm := ht.1
  obtain rfl : n = m := by omega
  have HS := Lib.hid hs; have HT := Lib.hid ht
  have hn' := hs.2.1
  clear hs ht hm hn
  have e0 : ((n : Int) != (n : Int)) = false := by simp
  go_enter Try.func22, Try.ntmps22
  go_wp2
  go_loopw [5] (fun i wr => ∃ k : Nat, k ≤ n ∧ i = .int .i64 k ∧ Later w wr) (fun i _ => n - (intOf i).toNat)
  case atStart => exact ⟨0, by omega, rfl, Later.refl _⟩
  case round =>
    obtain ⟨k, hk, rfl, hlw⟩ := hrel
    have HW := Lib.hid hlw
    clear hlw
    by_cases hlt : k < n
    · obtain ⟨b1, o1, rfl, c1, c2⟩ := (HS.out.later HW.out).two k hlt
      obtain ⟨b2, o2, rfl, d1, d2⟩ := (HT.out.later HW.out).two k hlt
      have C := Lib.hid c1; have C' := Lib.hid c2; have D := Lib.hid d1; have D' := Lib.hid d2
      have KL : Hid (∀ W', Later wr W' → W'.cell? ⟨b1, o1 + k * 2, none⟩ = some (.int .i64 (gx l (k * 2))) ∧ W'.cell? ⟨b1, o1 + k * 2 + 1, none⟩ = some (.int .i64 (gx l (k * 2 + 1))) ∧ W'.cell? ⟨b2, o2 + k * 2, none⟩ = some (.int .i64 (gx l (k * 2))) ∧ W'.cell? ⟨b2, o2 + k * 2 + 1, none⟩ = some (.int .i64 (gx l (k * 2 + 1)))) := Lib.hid (fun W' q => ⟨by rw [q.cell (p := ⟨b1, o1 + k * 2, none⟩) (cell_lt C.out)]; exact C.out, by rw [q.cell (p := ⟨b1, o1 + k * 2 + 1, none⟩) (cell_lt C.out)]; exact C'.out, by rw [q.cell (p := ⟨b2, o2 + k * 2, none⟩) (cell_lt D.out)]; exact D.out, by rw [q.cell (p := ⟨b2, o2 + k * 2 + 1, none⟩) (cell_lt D.out)]; exact D'.out⟩)
      go_wp2_with fail
      go_region_held3 (fun w' => w'.cell? ⟨b1, o1 + k * 2, none⟩ = some (.int .i64 (gx l (k * 2))) ∧ w'.cell? ⟨b1, o1 + k * 2 + 1, none⟩ = some (.int .i64 (gx l (k * 2 + 1))) ∧ w'.cell? ⟨b2, o2 + k * 2, none⟩ = some (.int .i64 (gx l (k * 2))) ∧ w'.cell? ⟨b2, o2 + k * 2 + 1, none⟩ = some (.int .i64 (gx l (k * 2 + 1)))) (exact KL.out _ (by repeat (first | (with_reducible exact Later.refl _) | (with_reducible exact Hid.out (by assumption)) | (with_reducible refine Later.alloc ?_ _) | (with_reducible refine Later.setCell ?_ (by simp; omega) _) | (with_reducible refine Later.setCell ?_ (by simp) _) | (with_reducible refine Later.drewN ?_ _) | (with_reducible refine Later.drew ?_) | (with_reducible refine Later.trans ?_ (Hid.out (by assumption))))))
        (first | (go_at_call 52; refine (l_eqInterval_same2 _ _ _).mono ?_; rintro e w1 ⟨rfl, hb1⟩; have H1 := Lib.hid hb1; clear hb1))
      all_goals
        go_wp2
        go_roundw
        case rel => exact ⟨k + 1, by omega, by go_num, (by repeat (first | (with_reducible exact Later.refl _) | (with_reducible exact Hid.out (by assumption)) | (with_reducible refine Later.alloc ?_ _) | (with_reducible refine Later.setCell ?_ (by simp; omega) _) | (with_reducible refine Later.setCell ?_ (by simp) _) | (with_reducible refine Later.drewN ?_ _) | (with_reducible refine Later.drew ?_) | (with_reducible refine Later.trans ?_ (Hid.out (by assumption)))))⟩
        case measure => simp [intOf]; omega
    · obtain rfl : k = n := by omega
      go_wp2
      go_ret
      exact ⟨rfl, HW.out⟩
theorem l_likeIntervals_same (a b : Option Addr) (n cap m cap' : Nat) (l : List Int) (w : World) (hs : Wd w a n 2 l) (ht : Wd w b m 2 l) :
    Calls Try.prog 13 #[.slice a n cap, .slice b m cap'] w fun e w' => e = .returned (.bool true) ∧ Later w w' := by
  have hn := hs.1; have hm := ht.1
  obtain rfl : n = m := by omega
  have HS := Lib.hid hs; have HT := Lib.hid ht
  have hn' := hs.2.1
  clear hs ht hm hn
  have e0 : ((n : Int) != (n : Int)) = false := by simp
  go_enter Try.func13, Try.ntmps13
  go_wp2
  go_loopw [5] (fun i wr => ∃ k : Nat, k ≤ n ∧ i = .int .i64 k ∧ Later w wr) (fun i _ => n - (intOf i).toNat)
  case atStart => exact ⟨0, by omega, rfl, Later.refl _⟩
  case round =>
    obtain ⟨k, hk, rfl, hlw⟩ := hrel
    have HW := Lib.hid hlw
    clear hlw
    by_cases hlt : k < n
    · obtain ⟨b1, o1, rfl, c1, c2⟩ := (HS.out.later HW.out).two k hlt
      obtain ⟨b2, o2, rfl, d1, d2⟩ := (HT.out.later HW.out).two k hlt
      generalize gx l (k * 2) = x at c1 d1
      generalize gx l (k * 2 + 1) = y at c2 d2
      go_wp2_with fail
      go_quiet (fail)
      go_wp2_with fail
      go_roundw
      case rel => exact ⟨k + 1, by omega, by go_num, (by repeat (first | (with_reducible exact Later.refl _) | (with_reducible exact Hid.out (by assumption)) | (with_reducible refine Later.alloc ?_ _) | (with_reducible refine Later.setCell ?_ (by simp; omega) _) | (with_reducible refine Later.setCell ?_ (by simp) _) | (with_reducible refine Later.drewN ?_ _) | (with_reducible refine Later.drew ?_) | (with_reducible refine Later.trans ?_ (Hid.out (by assumption)))))⟩
      case measure => simp [intOf]; omega
    · obtain rfl : k = n := by omega
      go_wp2
      go_ret
      exact ⟨rfl, HW.out⟩
/-- what marking leaves -/
def Marked2 (w : World) (base : Nat) (v : Value) (n : Nat) (l : List Int) (e : Ending) (w' : World) : Prop :=
  e = .returned (.int .i64 (1 + 2 * (n : Int))) ∧ OwnI w' base v n (mrk2 l n) ∧ w.grownBy w' v.ownBlock
theorem l_markIntervalS (v : Value) (base n : Nat) (l : List Int) (w : World) (ho : OwnI w base v n l) (hl : n ≤ 100000000) :
    Calls Try.prog 25 #[v, .int .i64 1] w (Marked2 w base v n l) := by
  have HI := Lib.hid ho.2
  have hlen := ho.len
  rcases ho.1.2 with ⟨rfl, h0⟩ | ⟨g, cap, cur, rfl, hb, hg, hnc, hcm, _⟩
  · subst h0
    have e : l = [] := List.length_eq_zero_iff.1 (by omega)
    subst e
    have HO := Lib.hid ho
    clear ho hlen
    go_enter Try.func25, Try.ntmps25
    go_wp2
    go_loop [1, 5] (fun m i => i = .int .i64 0 ∧ m = .int .i64 1) (fun _ _ => 0)
    case atStart => exact ⟨rfl, rfl⟩
    case round =>
      obtain ⟨rfl, rfl⟩ := hrel
      go_wp2
      go_ret
      exact ⟨rfl, HO.out, ⟨rfl, rfl, rfl, Nat.le_refl _, fun _ _ _ => rfl⟩⟩
  · have HL := Lib.hid hlen
    have O1 : Hid (w.ownsRow base 28 2 (.slice (some ⟨g, 0, none⟩) n cap) n ((mrk2 l 0).map (Value.int .i64))) := Lib.hid (by rw [mrk2_0]; exact ho.1)
    clear hg hnc hcm ho hb hlen
    go_enter Try.func25, Try.ntmps25
    go_wp2
    go_loopw [1, 5] (fun m i wr => ∃ k : Nat, k ≤ n ∧ i = .int .i64 k ∧ m = .int .i64 (1 + 2 * (k : Int)) ∧ wr.ownsRow base 28 2 (.slice (some ⟨g, 0, none⟩) n cap) n ((mrk2 l k).map (Value.int .i64)) ∧ w.grownBy wr (some g)) (fun _ i _ => n - (intOf i).toNat)
    case atStart => exact ⟨0, by omega, rfl, rfl, O1.out, ⟨rfl, rfl, rfl, Nat.le_refl _, fun _ _ _ => rfl⟩⟩
    case round =>
      obtain ⟨k, hk, rfl, rfl, ho, hg⟩ := hrel
      have HR := Lib.hid ho; have HG := Lib.hid hg
      clear ho hg
      by_cases hlt : k < n
      · obtain ⟨z, hz⟩ : ∃ z, wr.cell? ⟨g, k * 2, none⟩ = some (.int .i64 z) := ⟨_, by rw [HR.out.cellAt (k * 2) (by omega), List.getElem?_map, mrk2_get l k (k * 2) (by rw [HL.out]; omega)]; rfl⟩
        obtain ⟨z2, hz2⟩ : ∃ z, wr.cell? ⟨g, k * 2 + 1, none⟩ = some (.int .i64 z) := ⟨_, by rw [HR.out.cellAt (k * 2 + 1) (by omega), List.getElem?_map, mrk2_get l k (k * 2 + 1) (by rw [HL.out]; omega)]; rfl⟩
        have hf : wr.frozen? ⟨g, k * 2, none⟩ = false := HR.out.frozenAt _
        have hf2 : wr.frozen? ⟨g, k * 2 + 1, none⟩ = false := HR.out.frozenAt _
        have hset : Hid ((((mrk2 l k).map (Value.int .i64)).set (k * 2) (.int .i64 (1 + 2 * (k : Int)))).set (k * 2 + 1) (.int .i64 (1 + 2 * (k : Int) + 1)) = (mrk2 l (k + 1)).map (Value.int .i64)) := Lib.hid (by rw [← mrk2_set l k (by rw [HL.out]; omega), List.map_set, List.map_set, show ((k * 2 : Nat) : Int) = 2 * (k : Int) by omega, show (1 : Int) + ((k * 2 + 1 : Nat) : Int) = 1 + 2 * (k : Int) + 1 by omega])
        go_wp2
        go_roundw
        case rel => exact ⟨k + 1, by omega, by go_num, by go_num, by rw [← hset.out]; exact ((HR.out.stored _ _).1.stored _ _).1, grown_trans (grown_trans HG.out (HR.out.stored _ _).2) ((HR.out.stored _ _).1.stored _ _).2⟩
        case measure => simp [intOf]; omega
      · obtain rfl : k = n := by omega
        go_wp2
        go_ret
        exact ⟨rfl, ⟨HR.out, mrk2_in l _ (by rw [HL.out]; omega) HI.out⟩, HG.out⟩
theorem l_heldIntervalS (v : Value) (base n : Nat) (l : List Int) (w : World) (ho : OwnI w base v n (mrk2 l n)) (hl : n ≤ 100000000) :
    Calls Try.prog 26 #[v, .int .i64 1] w fun e w' => e = .returned (.int .i64 (1 + 2 * (n : Int))) ∧ w = w' := by
  obtain ⟨a, cap, rfl, _, hs, _⟩ := ho.wd
  have HS := Lib.hid hs
  have HL : Hid (l.length = n * 2) := Lib.hid (by have := ho.len; rw [mrk2_len] at this; exact this)
  clear hs ho
  go_enter Try.func26, Try.ntmps26
  go_wp2
  go_loop [1, 5] (fun m i => ∃ k : Nat, k ≤ n ∧ i = .int .i64 k ∧ m = .int .i64 (1 + 2 * (k : Int))) (fun _ i => n - (intOf i).toNat)
  case atStart => exact ⟨0, by omega, rfl, rfl⟩
  case round =>
    obtain ⟨k, hk, rfl, rfl⟩ := hrel
    by_cases hlt : k < n
    · obtain ⟨b, off, rfl, hc, hd⟩ := HS.out.two k hlt
      rw [mrk2_gx l n (k * 2) (by rw [HL.out]; omega) (by omega), show (1 : Int) + ((k * 2 : Nat) : Int) = 1 + 2 * (k : Int) by omega] at hc
      rw [mrk2_gx l n (k * 2 + 1) (by rw [HL.out]; omega) (by omega), show (1 : Int) + ((k * 2 + 1 : Nat) : Int) = 1 + 2 * (k : Int) + 1 by omega] at hd
      go_wp2
      go_round
      case rel => exact ⟨k + 1, by omega, by go_num, by go_num⟩
      case measure => simp [intOf]; omega
    · obtain rfl : k = n := by omega
      go_wp2
      go_ret
      exact ⟨rfl, rfl⟩
end Go.Proofs.Ytnmlkigpiaekjaa
