/- Contracts of chapter 5: the program's small functions. -/
import Derived.Test.YtehinlecppbjeaaOcM
import Derived.Test.YtehinlecppbjeaaOwn
import Derived.Test.YtehinlecppbjeaaHeld
import Derived.Outline
import Derived.Laws.ResultCell
namespace Go.Proofs.Ytehinlecppbjeaa
open Go.RowKit
set_option maxHeartbeats 2000000
set_option linter.unusedVariables false
set_option linter.unusedSimpArgs false
theorem i_isPosition (T p : Int) (w : World) : Calls Try.prog 123 #[.int .i64 T, .int .i64 p] w fun e w' => e = .returned (.bool (isP T p)) ∧ w = w' := by
  go_enter Try.func123, Try.ntmps123
  go_wp2
  all_goals
    go_ret
    exact ⟨ret_b (by unfold isP; first | (simp_all; done) | (simp_all; omega)), rfl⟩
theorem i_isMove (T p d : Int) (w : World) : Calls Try.prog 70 #[.int .i64 T, .int .i64 p, .int .i64 d] w fun e w' => e = .returned (.bool (mvB T p d)) ∧ w = w' := by
  cases hp : isP T p
  · go_enter Try.func70, Try.ntmps70
    go_wp2_with (go_at_call 123; refine (i_isPosition _ _ _).mono ?_; rw [hp]; rintro e w' ⟨rfl, rfl⟩)
    go_ret
    exact ⟨ret_b (by unfold mvB; rw [hp]; rfl), rfl⟩
  · go_enter Try.func70, Try.ntmps70
    go_wp2_with (go_at_call 123; refine (i_isPosition _ _ _).mono ?_; rw [hp]; rintro e w' ⟨rfl, rfl⟩)
    all_goals
      go_ret
      exact ⟨ret_b (by unfold mvB; rw [hp]; first | (simp_all; done) | (simp_all; omega)), rfl⟩
theorem sl_lat {w w' : World} {a : Option Addr} {n : Nat} {l : List Int} (h : Sl w a n l) (hb : Later w w') : Sl w' a n l := sl_later h hb
/-- a slice of one, of two elements, as a call lays it -/
theorem sl_one (w : World) (T : TypeId) (p : Int) (hp : InR p) : Sl (w.alloc (.cells #[.int .i64 p] T)) (some ⟨w.heap.size, 0, none⟩) 1 [p] := by
  refine ⟨rfl, by omega, fun k hk => ⟨_, 0, rfl, ?_⟩, fun x hx => by simp at hx; rw [hx]; exact hp⟩
  obtain rfl : k = 0 := by omega
  rw [Nat.zero_add, cell_of_row _ _ 0 _ T (0, 0) (heap_alloc_new w _)]; rfl
theorem sl_two (w : World) (T : TypeId) (p q : Int) (hp : InR p) (hq : InR q) : Sl (w.alloc (.cells #[.int .i64 p, .int .i64 q] T)) (some ⟨w.heap.size, 0, none⟩) 2 [p, q] := by
  refine ⟨rfl, by omega, fun k hk => ⟨_, 0, rfl, ?_⟩, fun x hx => by simp at hx; rcases hx with rfl | rfl <;> assumption⟩
  have : k = 0 ∨ k = 1 := by omega
  rcases this with rfl | rfl
  · rw [Nat.zero_add, cell_of_row _ _ 0 _ T (0, 0) (heap_alloc_new w _)]; rfl
  · rw [Nat.zero_add, cell_of_row _ _ 1 _ T (0, 0) (heap_alloc_new w _)]; rfl
theorem i_areTrains (T n : Int) (a : Option Addr) (m cap : Nat) (F : List Int) (w : World) (hf : Sl w a m F) :
    Calls Try.prog 75 #[.int .i64 T, .int .i64 n, .slice a m cap] w fun e w' => e = .returned (.bool (trsB T n F)) ∧ w = w' := by
  have HF := Lib.hid hf
  have hm := hf.2.1
  have HM := Lib.hid hf.1
  clear hf
  cases hn : isN T n
  · have HT : Hid (trsB T n F = false) := Lib.hid (by unfold trsB; rw [hn]; rfl)
    rw [isN_no] at hn
    have hn' : n < 1 ∨ (1 ≤ n ∧ 40000 < n) ∨ (1 ≤ n ∧ n ≤ 40000 ∧ T < n) := by omega
    clear hn
    rcases hn' with h | ⟨h, h2⟩ | ⟨h, h2, h3⟩
    all_goals
      go_enter Try.func75, Try.ntmps75
      go_wp2
      go_ret
      exact ⟨ret_b (by rw [HT.out]), rfl⟩
  · have HT : Hid (trsB T n F = allP T F) := Lib.hid (by unfold trsB; rw [hn]; rfl)
    rw [isN_iff] at hn
    obtain ⟨h1, h2, h3⟩ := hn
    go_enter Try.func75, Try.ntmps75
    go_wp2
    go_loop [22] (fun i => ∃ k : Nat, k ≤ m ∧ i = .int .i64 k ∧ ∀ j, j < k → isP T (gx F j) = true) (fun i => m - (intOf i).toNat)
    case atStart => exact ⟨0, by omega, rfl, fun j hj => by omega⟩
    case round =>
      obtain ⟨k, hk, rfl, hok⟩ := hrel
      have HO := Lib.hid hok
      clear hok
      by_cases hlt : k < m
      · obtain ⟨b, off, rfl, hc⟩ := HF.out.at k hlt
        cases hp : isP T (gx F k)
        · have HN : Hid (allP T F = false) := Lib.hid (allP_no (by rw [HM.out]; exact hlt) hp)
          go_wp2_with (go_at_call 123; refine (i_isPosition _ _ _).mono ?_; rw [hp]; rintro e w' ⟨rfl, rfl⟩)
          go_ret
          exact ⟨ret_b (by rw [HT.out, HN.out]), rfl⟩
        · have HP := Lib.hid hp
          go_wp2_with (go_at_call 123; refine (i_isPosition _ _ _).mono ?_; rw [hp]; rintro e w' ⟨rfl, rfl⟩)
          go_round
          case rel =>
            refine ⟨k + 1, by omega, by go_num, fun j hj => ?_⟩
            by_cases e : j = k
            · rw [e]; exact HP.out
            · exact HO.out j (by omega)
          case measure => simp [intOf]; omega
      · obtain rfl : k = m := by omega
        have HN : Hid (allP T F = true) := Lib.hid (allP_of (by rw [HM.out]; exact HO.out))
        go_wp2
        go_ret
        exact ⟨ret_b (by rw [HT.out, HN.out]), rfl⟩
theorem i_around (T n : Int) (w : World) (hT : 0 < T) (hT2 : T ≤ 100000000) (hn : -T ≤ n) (hn2 : n ≤ 100000000) :
    Calls Try.prog 71 #[.int .i64 T, .int .i64 n] w fun e w' => e = .returned (.int .i64 (n % T)) ∧ w = w' := by
  have h0 := (tmod_facts (n + T) T (by omega)).2.1 (by omega)
  have h1 := ((tmod_facts (n + T) T (by omega)).2.2.2.1 hT).1
  go_enter Try.func71, Try.ntmps71
  go_wp2
  go_ret
  exact ⟨ret_i64 (by simp), rfl⟩
theorem mod_rng (n T : Int) (hT : 0 < T) : 0 ≤ n % T ∧ n % T < T := ⟨Int.emod_nonneg n (by omega), Int.emod_lt_of_pos n hT⟩
theorem i_rearAt (T p n : Int) (w : World) (hT : 0 < T) (hT2 : T ≤ 4800000) (hp : 0 ≤ p) (hp2 : p < T) (hn : 1 ≤ n) (hn2 : n ≤ T) :
    Calls Try.prog 76 #[.int .i64 T, .int .i64 p, .int .i64 n] w fun e w' => e = .returned (.int .i64 (rearK T p n)) ∧ w = w' := by
  have HR : Hid (rearK T p n = (p - n + 1) % T) := Lib.hid rfl
  go_enter Try.func76, Try.ntmps76
  go_wp2_with (go_at_call 71; refine (i_around T (p - n + 1) _ hT (by omega) (by omega) (by omega)).mono ?_; rintro e w' ⟨rfl, rfl⟩)
  go_ret
  exact ⟨ret_i64 HR.out.symm, rfl⟩
theorem ret_iv2 {a b c d a' b' c' d' : Int} (h1 : a = a') (h2 : b = b') (h3 : c = c') (h4 : d = d') : Ending.returned (.tuple #[.agg #[.int .i64 a, .int .i64 b], .agg #[.int .i64 c, .int .i64 d]]) = .returned (.tuple #[.agg #[.int .i64 a', .int .i64 b'], .agg #[.int .i64 c', .int .i64 d']]) := by rw [h1, h2, h3, h4]
theorem i_partsOf (T f c : Int) (w : World) (hT : 0 < T) (hT2 : T ≤ 4800000) (hf : 0 ≤ f) (hf2 : f ≤ T) (hc : 0 ≤ c) (hc2 : c ≤ T) :
    Calls Try.prog 98 #[.int .i64 T, .int .i64 f, .int .i64 c] w fun e w' => e = .returned (.tuple #[.agg #[.int .i64 f, .int .i64 (min (f + c - 1) (T - 1))], .agg #[.int .i64 0, .int .i64 (f + c - 1 - T)]]) ∧ Later w w' := by
  have HM : Hid (∀ x y : Int, x ≤ y → min x y = x) := Lib.hid (fun x y h => Int.min_eq_left h)
  have HM2 : Hid (∀ x y : Int, y ≤ x → min x y = y) := Lib.hid (fun x y h => Int.min_eq_right h)
  by_cases hm : f + c - 1 ≤ T - 1
  · have HE := Lib.hid (HM.out _ _ hm)
    go_enter Try.func98, Try.ntmps98
    go_wp2
    refine bodyPost_ret (v := .tuple #[.agg #[.int .i64 f, .int .i64 (f + c - 1)], .agg #[.int .i64 0, .int .i64 (f + c - 1 - T)]]) (by simp [results, Try.results98, go_sem, *] <;> omega) rfl ⟨ret_iv2 rfl HE.out.symm rfl rfl, (by repeat (first | (with_reducible exact Later.refl _) | (with_reducible exact Hid.out (by assumption)) | (with_reducible refine Later.alloc ?_ _) | (with_reducible refine Later.setCell ?_ (by simp; omega) _) | (with_reducible refine Later.setCell ?_ (by simp) _) | (with_reducible refine Later.drewN ?_ _) | (with_reducible refine Later.drew ?_) | (with_reducible refine Later.trans ?_ (Hid.out (by assumption)))))⟩
  · have hm : T - 1 ≤ f + c - 1 := by omega
    have HE := Lib.hid (HM2.out _ _ hm)
    go_enter Try.func98, Try.ntmps98
    go_wp2
    refine bodyPost_ret (v := .tuple #[.agg #[.int .i64 f, .int .i64 (T - 1)], .agg #[.int .i64 0, .int .i64 (f + c - 1 - T)]]) (by simp [results, Try.results98, go_sem, *] <;> omega) rfl ⟨ret_iv2 rfl HE.out.symm rfl rfl, (by repeat (first | (with_reducible exact Later.refl _) | (with_reducible exact Hid.out (by assumption)) | (with_reducible refine Later.alloc ?_ _) | (with_reducible refine Later.setCell ?_ (by simp; omega) _) | (with_reducible refine Later.setCell ?_ (by simp) _) | (with_reducible refine Later.drewN ?_ _) | (with_reducible refine Later.drew ?_) | (with_reducible refine Later.trans ?_ (Hid.out (by assumption)))))⟩
theorem i_coveredParts (T p n : Int) (w : World) (hT : 0 < T) (hT2 : T ≤ 4800000) (hp : 0 ≤ p) (hp2 : p < T) (hn : 1 ≤ n) (hn2 : n ≤ T) :
    Calls Try.prog 102 #[.int .i64 T, .int .i64 p, .int .i64 n] w fun e w' => e = .returned (.tuple #[.agg #[.int .i64 (rearK T p n), .int .i64 (min (rearK T p n + n - 1) (T - 1))], .agg #[.int .i64 0, .int .i64 (rearK T p n + n - 1 - T)]]) ∧ Later w w' := by
  obtain ⟨r1, r2⟩ : 0 ≤ rearK T p n ∧ rearK T p n < T := mod_rng _ T hT
  generalize hr : rearK T p n = r at r1 r2 ⊢
  have HR := Lib.hid hr
  clear hr
  go_enter Try.func102, Try.ntmps102
  go_wp2_with fail
  refine (i_rearAt T p n _ hT hT2 hp hp2 hn hn2).mono ?_
  rw [HR.out]
  rintro e w' ⟨rfl, rfl⟩
  go_wp2_with fail
  refine (i_partsOf T r n _ hT hT2 r1 (by omega) (by omega) hn2).mono ?_
  rintro e w1 ⟨rfl, hb⟩
  have H := Lib.hid (show Later w w1 from Later.trans (by repeat (first | (with_reducible exact Later.refl _) | (with_reducible exact Hid.out (by assumption)) | (with_reducible refine Later.alloc ?_ _) | (with_reducible refine Later.setCell ?_ (by simp; omega) _) | (with_reducible refine Later.setCell ?_ (by simp) _) | (with_reducible refine Later.drewN ?_ _) | (with_reducible refine Later.drew ?_) | (with_reducible refine Later.trans ?_ (Hid.out (by assumption))))) hb)
  have F0 := Fr.o2 (fr_later (fr_alloc (X := w) (l := [.int .i64 0, .int .i64 0]) (Later.refl _)) (Later.trans ((Later.refl _).alloc _) hb))
  have F1 := Fr.o2 (fr_alloc (l := [.int .i64 0, .int .i64 0]) hb)
  rw [World.size_alloc] at F1
  obtain ⟨f0, f1, f2, f3⟩ := F0
  obtain ⟨k0, k1, k2, k3⟩ := F1
  have hz1 : w.heap.size + 1 < w1.heap.size := by have := hb.size; simp at this; omega
  have hz0 : w.heap.size < w1.heap.size := by omega
  clear hb
  go_wp2_with fail
  refine bodyPost_ret (v := .tuple #[.agg #[.int .i64 r, .int .i64 (min (r + n - 1) (T - 1))], .agg #[.int .i64 0, .int .i64 (r + n - 1 - T)]]) (by simp [results, Try.results102, go_sem, *] <;> omega) rfl ⟨rfl, (by repeat (first | (with_reducible exact Later.refl _) | (with_reducible exact Hid.out (by assumption)) | (with_reducible refine Later.alloc ?_ _) | (with_reducible refine Later.setCell ?_ (by simp; omega) _) | (with_reducible refine Later.setCell ?_ (by simp) _) | (with_reducible refine Later.drewN ?_ _) | (with_reducible refine Later.drew ?_) | (with_reducible refine Later.trans ?_ (Hid.out (by assumption)))))⟩
end Go.Proofs.Ytehinlecppbjeaa
