/- Contracts of chapter 6: the energy behind a segment, of the program; the closure that sums. | Contracts of the laws' own helpers on intervals. | Contracts of the laws' own helpers on segments. | Contracts of the laws' own helpers on slices of segments and layouts. | Marks that the exact laws write into layouts. | Contracts of chapter 6: the closure that sums the changes along a run, of the program. | Contracts of chapter 3: layouts: the program's functions. | Sets of brakes in plain words: which segments of a run are brakes, as a walk along the run gathers them and as the list of all indices tells them. | Slices of structs of numbers, each struct wd cells wide: what the walks say of them (for every such type). | Contracts of chapter 9: places along a run, the last energy of one, sets of brakes, of the program. | Contracts of chapter 6: the segments of a run, of the program. | Slices of intervals, as the laws compare, mark and read them; one interval appended. | Contracts of chapter 6: the energies along a run, of the program. | Contracts of chapter 6: the model's speeds, verdicts, energies behind a segment. | Contracts of chapter 6: the energies along a run: the model's function. | Plain words of chapter 6: a run in two parts. No program in sight. | A slice of structs of numbers appended to one of the call's own, also under a guard. | The laws' own dice: numbers from 0 to n - 1 out of the code's bytes. | Slices that came in, as the shell of a proof says them. | The walk of the law of chapter 6 on runs in two parts. -/
import Derived.Test.YtnmlkigpiaekjaaEnK
import Derived.Deep.RegionWith
import Derived.Test.YtnmlkigpiaekjaaIvN
import Derived.Test.YtnmlkigpiaekjaaSgs
import Derived.Laws.ResultCell
import Derived.Test.YtnmlkigpiaekjaaHeld
import Derived.IntWalk
import Derived.Test.YtnmlkigpiaekjaaGrown
import Derived.Test.YtnmlkigpiaekjaaEnP
import Derived.Test.YtnmlkigpiaekjaaSg1
import Derived.Test.YtnmlkigpiaekjaaMathL
import Derived.Test.YtnmlkigpiaekjaaSl
import Derived.Test.YtnmlkigpiaekjaaOwn
import Derived.WalkSmall
import Derived.Deep.DeepMust
import Derived.Test.YtnmlkigpiaekjaaOwnS
import Derived.Deep.RegionLaw
import Derived.Test.YtnmlkigpiaekjaaEnS
import Derived.Test.YtnmlkigpiaekjaaEnV
import Derived.Laws.AppendOwnNone
import Derived.Test.YtnmlkigpiaekjaaSt
import Derived.RegionTactic
import Derived.ChangeAlike
import Derived.Test.YtnmlkigpiaekjaaFrom
import Derived.Test.YtnmlkigpiaekjaaEnY
namespace Go.Proofs.Ytnmlkigpiaekjaa
open Go.RowKit
set_option maxHeartbeats 4000000
set_option linter.unusedVariables false
set_option linter.unusedSimpArgs false
end Go.Proofs.Ytnmlkigpiaekjaa
namespace Go.Proofs.Ytnmlkigpiaekjaa
open Go.RowKit
set_option maxHeartbeats 2000000
set_option linter.unusedVariables false
set_option linter.unusedSimpArgs false
theorem l_toInterval (a b : Int) (w : World) : Calls Try.prog 21 #[.agg #[.int .i64 a, .int .i64 b]] w fun e w' => e = .returned (.agg #[.int .i64 a, .int .i64 b]) ∧ Later w w' := by
  go_enter Try.func21, Try.ntmps21
  go_wp2
  refine bodyPost_ret (v := .agg #[.int .i64 a, .int .i64 b]) (by simp [results, Try.results21, go_sem]) rfl ⟨rfl, ?_⟩
  exact (((Later.refl _).alloc _).alloc _).alloc _
theorem l_eqInterval (a b c d : Int) (w : World) : Calls Try.prog 52 #[.agg #[.int .i64 a, .int .i64 b], .agg #[.int .i64 c, .int .i64 d]] w fun e w' => e = .returned (.bool (a == c && b == d)) ∧ Later w w' := by
  go_enter Try.func52, Try.ntmps52
  go_wp2
  all_goals
    go_ret
    exact ⟨ret_b (by simp_all), ((Later.refl _).alloc _).alloc _⟩
end Go.Proofs.Ytnmlkigpiaekjaa
namespace Go.Proofs.Ytnmlkigpiaekjaa
open Go.RowKit
set_option maxHeartbeats 2000000
set_option linter.unusedVariables false
set_option linter.unusedSimpArgs false
theorem l_toSegment (x : Sg) (w : World) : Calls Try.prog 81 #[.agg #[.int .i64 x.k, .int .i64 x.l, .int .i64 x.r, .int .i64 x.a, .int .i64 x.b, .int .i64 x.c, .int .i64 x.d]] w fun e w' => e = .returned (.agg #[.int .i64 x.k, .int .i64 x.l, .int .i64 x.r, .int .i64 x.a, .int .i64 x.b, .int .i64 x.c, .int .i64 x.d]) ∧ Later w w' := by
  go_enter Try.func81, Try.ntmps81
  go_wp2_with (go_at_call 21; refine (l_toInterval _ _ _).mono ?_; rintro e w1 ⟨rfl, hb⟩; obtain ⟨H, hcc, hff, hzz⟩ := later_facts hb; clear hb; (try simp at hzz); (try simp only [World.heap_drewN, World.cell?_drewN, World.frozen?_drewN] at hcc hff); have hz0 : w.heap.size < w1.heap.size := (by omega); (try (have hz1 : w.heap.size + 1 < w1.heap.size := (by omega))); (try (have hz2 : w.heap.size + 1 + 1 < w1.heap.size := (by omega))))
  refine bodyPost_ret (v := .agg #[.int .i64 x.k, .int .i64 x.l, .int .i64 x.r, .int .i64 x.a, .int .i64 x.b, .int .i64 x.c, .int .i64 x.d]) (by simp [results, Try.results81, go_sem, *]) rfl ⟨rfl, ?_⟩
  exact (by repeat (first | (with_reducible exact Later.refl _) | (with_reducible exact Hid.out (by assumption)) | (with_reducible refine Later.setCell ?_ (by simp; omega) _) | (with_reducible refine Later.setCell ?_ (by simp) _) | (with_reducible refine Later.alloc ?_ _) | (with_reducible refine Later.drewN ?_ _) | (with_reducible refine Later.drew ?_) | (with_reducible refine Later.trans ?_ (Hid.out (by assumption)))))
theorem l_eqSegment (x y : Sg) (w : World) : Calls Try.prog 82 #[.agg #[.int .i64 x.k, .int .i64 x.l, .int .i64 x.r, .int .i64 x.a, .int .i64 x.b, .int .i64 x.c, .int .i64 x.d], .agg #[.int .i64 y.k, .int .i64 y.l, .int .i64 y.r, .int .i64 y.a, .int .i64 y.b, .int .i64 y.c, .int .i64 y.d]] w fun e w' => e = .returned (.bool (eqB x y)) ∧ Later w w' := by
  have key : ∀ p q r s t : Bool, (x.k == y.k) = p → (x.l == y.l) = q → (x.r == y.r) = r → (x.a == y.a && x.b == y.b) = s → (x.c == y.c && x.d == y.d) = t → Hid (eqB x y = (p && q && r && s && t)) := by
    rintro p q r s t rfl rfl rfl rfl rfl; exact Lib.hid rfl
  cases h1 : (x.k == y.k)
  · have K := key _ _ _ _ _ h1 rfl rfl rfl rfl
    have e1 : (x.k != y.k) = true := by simp [bne, h1]
    clear key h1
    go_enter Try.func82, Try.ntmps82
    go_wp2
    go_ret
    exact ⟨ret_b (by rw [K.out]; simp), (by repeat (first | (with_reducible exact Later.refl _) | (with_reducible exact Hid.out (by assumption)) | (with_reducible refine Later.setCell ?_ (by simp; omega) _) | (with_reducible refine Later.setCell ?_ (by simp) _) | (with_reducible refine Later.alloc ?_ _) | (with_reducible refine Later.drewN ?_ _) | (with_reducible refine Later.drew ?_) | (with_reducible refine Later.trans ?_ (Hid.out (by assumption)))))⟩
  · have e1 : (x.k != y.k) = false := by simp [bne, h1]
    cases h2 : (x.l == y.l)
    · have K := key _ _ _ _ _ h1 h2 rfl rfl rfl
      have e2 : (x.l != y.l) = true := by simp [bne, h2]
      clear key h1 h2
      go_enter Try.func82, Try.ntmps82
      go_wp2
      go_ret
      exact ⟨ret_b (by rw [K.out]; simp), (by repeat (first | (with_reducible exact Later.refl _) | (with_reducible exact Hid.out (by assumption)) | (with_reducible refine Later.setCell ?_ (by simp; omega) _) | (with_reducible refine Later.setCell ?_ (by simp) _) | (with_reducible refine Later.alloc ?_ _) | (with_reducible refine Later.drewN ?_ _) | (with_reducible refine Later.drew ?_) | (with_reducible refine Later.trans ?_ (Hid.out (by assumption)))))⟩
    · have e2 : (x.l != y.l) = false := by simp [bne, h2]
      cases h3 : (x.r == y.r)
      · have K := key _ _ _ _ _ h1 h2 h3 rfl rfl
        have e3 : (x.r != y.r) = true := by simp [bne, h3]
        clear key h1 h2 h3
        go_enter Try.func82, Try.ntmps82
        go_wp2
        go_ret
        exact ⟨ret_b (by rw [K.out]; simp), (by repeat (first | (with_reducible exact Later.refl _) | (with_reducible exact Hid.out (by assumption)) | (with_reducible refine Later.setCell ?_ (by simp; omega) _) | (with_reducible refine Later.setCell ?_ (by simp) _) | (with_reducible refine Later.alloc ?_ _) | (with_reducible refine Later.drewN ?_ _) | (with_reducible refine Later.drew ?_) | (with_reducible refine Later.trans ?_ (Hid.out (by assumption)))))⟩
      · have e3 : (x.r != y.r) = false := by simp [bne, h3]
        cases h4 : (x.a == y.a && x.b == y.b) <;> cases h5 : (x.c == y.c && x.d == y.d)
        all_goals
          have K := key _ _ _ _ _ h1 h2 h3 h4 h5
          have H4 := Lib.hid h4; have H5 := Lib.hid h5
          clear key h1 h2 h3 h4 h5
          go_enter Try.func82, Try.ntmps82
          go_wp2_with (go_at_call 52; refine (l_eqInterval _ _ _ _ _).mono ?_; (try rw [H4.out]); (try rw [H5.out]); rintro e w1 ⟨rfl, hb⟩; obtain ⟨H, hcc, hff, hzz⟩ := later_facts hb; clear hb; (try simp at hzz); (try simp only [World.heap_drewN, World.cell?_drewN, World.frozen?_drewN] at hcc hff); have hz0 : w.heap.size < w1.heap.size := (by omega); (try (have hz1 : w.heap.size + 1 < w1.heap.size := (by omega))); (try (have hz2 : w.heap.size + 1 + 1 < w1.heap.size := (by omega))))
          go_ret
          exact ⟨ret_b (by rw [K.out]; rfl), (by repeat (first | (with_reducible exact Later.refl _) | (with_reducible exact Hid.out (by assumption)) | (with_reducible refine Later.setCell ?_ (by simp; omega) _) | (with_reducible refine Later.setCell ?_ (by simp) _) | (with_reducible refine Later.alloc ?_ _) | (with_reducible refine Later.drewN ?_ _) | (with_reducible refine Later.drew ?_) | (with_reducible refine Later.trans ?_ (Hid.out (by assumption)))))⟩
end Go.Proofs.Ytnmlkigpiaekjaa
namespace Go.Proofs.Ytnmlkigpiaekjaa
open Go.RowKit
set_option maxHeartbeats 2000000
set_option linter.unusedVariables false
set_option linter.unusedSimpArgs false
theorem later_id {w w' : World} (h : Later w w') : Hid (Later w w') := Lib.hid h
theorem SgAt.later {w w' : World} {b o : Nat} {x : Sg} (h : SgAt w b o x) (k : Later w w') : SgAt w' b o x := by
  obtain ⟨h0, h1, h2, h3, h4, h5, h6⟩ := h
  have hb := sg_cell_lt h0
  refine ⟨?_, ?_, ?_, ?_, ?_, ?_, ?_⟩
  · rw [k.cell (p := ⟨b, o, none⟩) hb]; exact h0
  · rw [k.cell (p := ⟨b, o + 1, none⟩) hb]; exact h1
  · rw [k.cell (p := ⟨b, o + 2, none⟩) hb]; exact h2
  · rw [k.cell (p := ⟨b, o + 3, none⟩) hb]; exact h3
  · rw [k.cell (p := ⟨b, o + 4, none⟩) hb]; exact h4
  · rw [k.cell (p := ⟨b, o + 5, none⟩) hb]; exact h5
  · rw [k.cell (p := ⟨b, o + 6, none⟩) hb]; exact h6
theorem sg14 {w : World} {b o b' o' : Nat} {x y : Sg} (h : SgAt w b o x) (k : SgAt w b' o' y) : w.cell? ⟨b, o, none⟩ = some (.int .i64 x.k) ∧ w.cell? ⟨b, o + 1, none⟩ = some (.int .i64 x.l) ∧ w.cell? ⟨b, o + 2, none⟩ = some (.int .i64 x.r) ∧ w.cell? ⟨b, o + 3, none⟩ = some (.int .i64 x.a) ∧ w.cell? ⟨b, o + 4, none⟩ = some (.int .i64 x.b) ∧ w.cell? ⟨b, o + 5, none⟩ = some (.int .i64 x.c) ∧ w.cell? ⟨b, o + 6, none⟩ = some (.int .i64 x.d) ∧ w.cell? ⟨b', o', none⟩ = some (.int .i64 y.k) ∧ w.cell? ⟨b', o' + 1, none⟩ = some (.int .i64 y.l) ∧ w.cell? ⟨b', o' + 2, none⟩ = some (.int .i64 y.r) ∧ w.cell? ⟨b', o' + 3, none⟩ = some (.int .i64 y.a) ∧ w.cell? ⟨b', o' + 4, none⟩ = some (.int .i64 y.b) ∧ w.cell? ⟨b', o' + 5, none⟩ = some (.int .i64 y.c) ∧ w.cell? ⟨b', o' + 6, none⟩ = some (.int .i64 y.d) :=
  ⟨h.1, h.2.1, h.2.2.1, h.2.2.2.1, h.2.2.2.2.1, h.2.2.2.2.2.1, h.2.2.2.2.2.2, k⟩
/-- two lists of segments are equal -/
def eqsB (L M : List Sg) : Bool := decide (L.length = M.length) && (List.range L.length).all fun k => eqB (sx L k) (sx M k)
theorem eqsB_same (L : List Sg) : eqsB L L = true := by
  unfold eqsB
  simp [eqB_iff]
theorem l_eqSegmentS_same (a a' : Option Addr) (n cap n' cap' : Nat) (L : List Sg) (w : World) (hs : Sgs w a n L) (ht : Sgs w a' n' L) :
    Calls Try.prog 53 #[.slice a n cap, .slice a' n' cap'] w fun e w' => e = .returned (.bool true) ∧ Later w w' := by
  obtain rfl : n = n' := by rw [← hs.1, ← ht.1]
  have HS := Lib.hid hs
  have HT := Lib.hid ht
  have hn := hs.2.1
  clear hs ht
  have e0 : ((n : Int) != (n : Int)) = false := by simp
  go_enter Try.func53, Try.ntmps53
  go_wp2
  go_loopw [5] (fun i wr => ∃ k : Nat, k ≤ n ∧ i = .int .i64 k ∧ Later w wr) (fun i _ => n - (intOf i).toNat)
  case atStart => exact ⟨0, by omega, rfl, Later.refl _⟩
  case round =>
    obtain ⟨k, hk, rfl, hlw⟩ := hrel
    have HW := Lib.hid hlw
    clear hlw
    by_cases hlt : k < n
    · obtain ⟨b, off, rfl, hb, hc⟩ := (HS.out.later HW.out).at k hlt
      obtain ⟨b', off', rfl, hb', hc'⟩ := (HT.out.later HW.out).at k hlt
      have C := Lib.hid hc; have C' := Lib.hid hc'
      obtain ⟨c0, c1, c2, c3, c4, c5, c6⟩ := hc
      obtain ⟨d0, d1, d2, d3, d4, d5, d6⟩ := hc'
      go_wp2_with fail
      go_region_held3 (fun w' => w'.cell? ⟨b, off + k * 7, none⟩ = some (.int .i64 (sx L k).k) ∧ w'.cell? ⟨b, off + k * 7 + 1, none⟩ = some (.int .i64 (sx L k).l) ∧ w'.cell? ⟨b, off + k * 7 + 2, none⟩ = some (.int .i64 (sx L k).r) ∧ w'.cell? ⟨b, off + k * 7 + 3, none⟩ = some (.int .i64 (sx L k).a) ∧ w'.cell? ⟨b, off + k * 7 + 4, none⟩ = some (.int .i64 (sx L k).b) ∧ w'.cell? ⟨b, off + k * 7 + 5, none⟩ = some (.int .i64 (sx L k).c) ∧ w'.cell? ⟨b, off + k * 7 + 6, none⟩ = some (.int .i64 (sx L k).d) ∧ w'.cell? ⟨b', off' + k * 7, none⟩ = some (.int .i64 (sx L k).k) ∧ w'.cell? ⟨b', off' + k * 7 + 1, none⟩ = some (.int .i64 (sx L k).l) ∧ w'.cell? ⟨b', off' + k * 7 + 2, none⟩ = some (.int .i64 (sx L k).r) ∧ w'.cell? ⟨b', off' + k * 7 + 3, none⟩ = some (.int .i64 (sx L k).a) ∧ w'.cell? ⟨b', off' + k * 7 + 4, none⟩ = some (.int .i64 (sx L k).b) ∧ w'.cell? ⟨b', off' + k * 7 + 5, none⟩ = some (.int .i64 (sx L k).c) ∧ w'.cell? ⟨b', off' + k * 7 + 6, none⟩ = some (.int .i64 (sx L k).d)) (exact sg14 (C.out.later (by repeat (first | (with_reducible exact Later.refl _) | (with_reducible refine Later.alloc ?_ _) | (with_reducible refine Later.drewN ?_ _) | (with_reducible refine Later.drew ?_) | (with_reducible refine Later.trans ?_ (Hid.out (by assumption)))))) (C'.out.later (by repeat (first | (with_reducible exact Later.refl _) | (with_reducible refine Later.alloc ?_ _) | (with_reducible refine Later.drewN ?_ _) | (with_reducible refine Later.drew ?_) | (with_reducible refine Later.trans ?_ (Hid.out (by assumption)))))))
        (first | (go_at_call 82; refine (l_eqSegment (sx L k) (sx L k) _).mono ?_; rw [(eqB_iff _ _).2 rfl]; rintro e w1 ⟨rfl, hb1⟩; have H1 := Lib.hid hb1; clear hb1))
      all_goals
        go_wp2
        go_roundw
        case rel => exact ⟨k + 1, by omega, by go_num, (by repeat (first | (with_reducible exact Later.refl _) | (with_reducible exact Hid.out (by assumption)) | (with_reducible refine Later.alloc ?_ _) | (with_reducible refine Later.drewN ?_ _) | (with_reducible refine Later.drew ?_) | (with_reducible refine Later.trans ?_ (Hid.out (by assumption)))))⟩
        case measure => simp [intOf]; omega
    · obtain rfl : k = n := by omega
      go_wp2
      go_ret
      exact ⟨rfl, HW.out⟩
theorem l_eqLayout_same (a a' : Option Addr) (n cap n' cap' : Nat) (L : List Sg) (w : World) (hs : Sgs w a n L) (ht : Sgs w a' n' L) :
    Calls Try.prog 23 #[.agg #[.slice a n cap], .agg #[.slice a' n' cap']] w fun e w' => e = .returned (.bool true) ∧ Later w w' := by
  have HS := Lib.hid hs; have HT := Lib.hid ht
  clear hs ht
  go_enter Try.func23, Try.ntmps23
  go_wp2_with (go_at_call 53; refine (l_eqSegmentS_same a a' n cap n' cap' L _ (HS.out.later (by repeat (first | (with_reducible exact Later.refl _) | (with_reducible exact Hid.out (by assumption)) | (with_reducible refine Later.alloc ?_ _) | (with_reducible refine Later.drewN ?_ _) | (with_reducible refine Later.drew ?_) | (with_reducible refine Later.trans ?_ (Hid.out (by assumption)))))) (HT.out.later (by repeat (first | (with_reducible exact Later.refl _) | (with_reducible exact Hid.out (by assumption)) | (with_reducible refine Later.alloc ?_ _) | (with_reducible refine Later.drewN ?_ _) | (with_reducible refine Later.drew ?_) | (with_reducible refine Later.trans ?_ (Hid.out (by assumption))))))).mono ?_; rintro e w1 ⟨rfl, hb1⟩; have H1 := Lib.hid hb1; clear hb1)
  go_ret
  exact ⟨rfl, (by repeat (first | (with_reducible exact Later.refl _) | (with_reducible exact Hid.out (by assumption)) | (with_reducible refine Later.alloc ?_ _) | (with_reducible refine Later.drewN ?_ _) | (with_reducible refine Later.drew ?_) | (with_reducible refine Later.trans ?_ (Hid.out (by assumption)))))⟩
/-- what is left of a bound on the length, or -1 -/
def szI (m : Int) (n : Nat) : Int := if m - n < 0 then -1 else m - n
theorem l_szSegmentS (a : Option Addr) (n cap : Nat) (w : World) (hn : n ≤ 9223372036854775807) :
    Calls Try.prog 50 #[.slice a n cap, .int .i64 1048576] w fun e w' => e = .returned (.int .i64 (szI 1048576 n)) ∧ w = w' := by
  by_cases h : 1048576 < n
  · have e1 : Hid (szI 1048576 n = -1) := Lib.hid (by unfold szI; rw [if_pos (by omega)])
    go_enter Try.func50, Try.ntmps50
    go_wp2
    go_ret
    exact ⟨ret_i64 (by rw [e1.out]), rfl⟩
  · have e1 : Hid (szI 1048576 n = 1048576 - n) := Lib.hid (by unfold szI; rw [if_neg (by omega)])
    have h : n ≤ 1048576 := by omega
    go_enter Try.func50, Try.ntmps50
    go_wp2
    go_ret
    exact ⟨ret_i64 (by rw [e1.out]), rfl⟩
theorem l_szLayout (a : Option Addr) (n cap : Nat) (w : World) (hn : n ≤ 9223372036854775807) :
    Calls Try.prog 19 #[.agg #[.slice a n cap], .int .i64 1048576] w fun e w' => e = .returned (.int .i64 (szI 1048576 n)) ∧ Later w w' := by
  by_cases h : 1048576 < n
  · have e1 : Hid (szI 1048576 n = -1) := Lib.hid (by unfold szI; rw [if_pos (by omega)])
    go_enter Try.func19, Try.ntmps19
    go_wp2_with (go_at_call 50; refine (l_szSegmentS a n cap _ hn).mono ?_; rw [e1.out]; rintro e w' ⟨rfl, rfl⟩)
    go_ret
    exact ⟨ret_i64 (by rw [e1.out]), (by repeat (first | (with_reducible exact Later.refl _) | (with_reducible exact Hid.out (by assumption)) | (with_reducible refine Later.alloc ?_ _) | (with_reducible refine Later.drewN ?_ _) | (with_reducible refine Later.drew ?_) | (with_reducible refine Later.trans ?_ (Hid.out (by assumption)))))⟩
  · have e1 : Hid (szI 1048576 n = 1048576 - n) := Lib.hid (by unfold szI; rw [if_neg (by omega)])
    have h : n ≤ 1048576 := by omega
    go_enter Try.func19, Try.ntmps19
    go_wp2_with (go_at_call 50; refine (l_szSegmentS a n cap _ hn).mono ?_; rw [e1.out]; rintro e w' ⟨rfl, rfl⟩)
    go_ret
    exact ⟨ret_i64 (by rw [e1.out]), (by repeat (first | (with_reducible exact Later.refl _) | (with_reducible exact Hid.out (by assumption)) | (with_reducible refine Later.alloc ?_ _) | (with_reducible refine Later.drewN ?_ _) | (with_reducible refine Later.drew ?_) | (with_reducible refine Later.trans ?_ (Hid.out (by assumption)))))⟩
/-- what a copy of a slice of segments leaves: a row of its own -/
def CopiedS (w : World) (n : Nat) (L : List Sg) (e : Ending) (w' : World) : Prop :=
  ∃ g, e = .returned (.slice (some ⟨g, 0, none⟩) n n) ∧ w.heap.size ≤ g ∧ SgRow w' g n (flt L) ∧ Later w w'
theorem info_seg : (Try.prog.info? 77).map (fun i => (i.zero, i.size, i.bytes)) = some (some (.agg #[.int .i64 0, .int .i64 0, .int .i64 0, .int .i64 0, .int .i64 0, .int .i64 0, .int .i64 0]), 7, 56) := by kernel_rfl
end Go.Proofs.Ytnmlkigpiaekjaa
namespace Go.Proofs.Ytnmlkigpiaekjaa
open Go.RowKit
set_option maxHeartbeats 2000000
set_option linter.unusedVariables false
set_option linter.unusedSimpArgs false
/-- the numbers of a row, of which those of the first k segments are marked -/
def mrkS (f : Nat → Int) (k j : Nat) : Int := if j < k * 7 then 1 + (j : Int) else f j
def MarkedS (w : World) (g n : Nat) (f : Nat → Int) (e : Ending) (w' : World) : Prop :=
  e = .returned (.int .i64 (1 + 7 * (n : Int))) ∧ SgRow w' g n (mrkS f n) ∧ w.grownBy w' (some g)
theorem grown_refl (w : World) (r : Option Nat) : w.grownBy w r := ⟨rfl, rfl, rfl, Nat.le_refl _, fun _ _ _ => rfl⟩
theorem grown_set1 {a b : World} {g : Nat} (h : a.grownBy b (some g)) (j : Nat) (u : Value) : a.grownBy (b.setCell ⟨g, j, none⟩ u) (some g) := grown_trans h (grown_set b g j u)
set_option maxRecDepth 100000 in
theorem l_markSegmentS (g n cap : Nat) (f : Nat → Int) (w : World) (hr : SgRow w g n f) (hn : n ≤ 1048576) :
    Calls Try.prog 54 #[.slice (some ⟨g, 0, none⟩) n cap, .int .i64 1] w (MarkedS w g n f) := by
  have HR := Lib.hid hr
  clear hr
  go_enter Try.func54, Try.ntmps54
  go_wp2
  go_loopw [1, 5] (fun m i wr => ∃ k : Nat, k ≤ n ∧ i = .int .i64 k ∧ m = .int .i64 (1 + 7 * (k : Int)) ∧ SgRow wr g n (mrkS f k) ∧ w.grownBy wr (some g)) (fun _ i _ => n - (intOf i).toNat)
  case atStart => exact ⟨0, by omega, rfl, rfl, HR.out.congr (fun j hj => by unfold mrkS; rw [if_neg (by omega)]), grown_refl _ _⟩
  case round =>
    clear HR
    obtain ⟨k, hk, rfl, rfl, ho, hg⟩ := hrel
    have HR := Lib.hid ho; have HG := Lib.hid hg
    clear ho hg
    by_cases hlt : k < n
    · obtain ⟨u0, u1, u2, u3, u4, u5, u6, z0, z1, z2, z3, z4, z5, z6, g0, g1, g2, g3, g4, g5, g6⟩ := HR.out.seven' k hlt
      go_wp2
      go_roundw
      case rel =>
        refine ⟨k + 1, by omega, by go_num, by go_num, HR.out.put7 k _ _ _ _ _ _ _ ?_, ?_⟩
        · intro j hj
          unfold mrkS
          by_cases h1 : j < k * 7
          · rw [if_pos (by omega), if_neg (by omega), if_neg (by omega), if_neg (by omega), if_neg (by omega), if_neg (by omega), if_neg (by omega), if_neg (by omega), if_pos h1]
          · by_cases h2 : j < (k + 1) * 7
            · rw [if_pos h2]
              obtain ⟨i, rfl⟩ : ∃ i, j = k * 7 + i := ⟨j - k * 7, by omega⟩
              have hi' : i = 0 ∨ i = 1 ∨ i = 2 ∨ i = 3 ∨ i = 4 ∨ i = 5 ∨ i = 6 := by omega
              rcases hi' with rfl | rfl | rfl | rfl | rfl | rfl | rfl <;> simp <;> omega
            · rw [if_neg h2, if_neg (by omega), if_neg (by omega), if_neg (by omega), if_neg (by omega), if_neg (by omega), if_neg (by omega), if_neg (by omega), if_neg h1]
        · exact grown_set1 (grown_set1 (grown_set1 (grown_set1 (grown_set1 (grown_set1 (grown_set1 HG.out _ _) _ _) _ _) _ _) _ _) _ _) _ _
      case measure => simp [intOf]; omega
    · obtain rfl : k = n := by omega
      go_wp2
      go_ret
      exact ⟨rfl, HR.out, HG.out⟩
def MarkedL (w : World) (g n : Nat) (f : Nat → Int) (e : Ending) (w' : World) : Prop :=
  e = .returned (.int .i64 (1 + 7 * (n : Int))) ∧ SgRow w' g n (mrkS f n) ∧ w.grownBy w' (some g)
theorem l_markLayout (g n cap : Nat) (f : Nat → Int) (w : World) (hr : SgRow w g n f) (hn : n ≤ 1048576) :
    Calls Try.prog 24 #[.agg #[.slice (some ⟨g, 0, none⟩) n cap], .int .i64 1] w (MarkedL w g n f) := by
  have HR := Lib.hid (hr.later ((Later.refl _).alloc (.cells #[.slice (some ⟨g, 0, none⟩) n cap] 26)))
  clear hr
  go_enter Try.func24, Try.ntmps24
  go_wp2_with fail
  refine (l_markSegmentS g n cap f _ HR.out hn).mono ?_
  rintro e w1 ⟨rfl, hr, hg⟩
  have R1 := Lib.hid hr
  have G1 := Lib.hid (grown_trans (World.grownBy_alloc w _ (some g)) hg)
  clear hr hg
  go_wp2
  go_ret
  exact ⟨rfl, R1.out, G1.out⟩
end Go.Proofs.Ytnmlkigpiaekjaa
namespace Go.Proofs.Ytnmlkigpiaekjaa
open Go.RowKit
set_option maxHeartbeats 4000000
set_option linter.unusedVariables false
set_option linter.unusedSimpArgs false
theorem grown_allocC {a b : World} {r : Option Nat} (h : a.grownBy b r) (o : Obj) : a.grownBy (b.alloc o) r := grown_trans h (World.grownBy_alloc b o r)
theorem grown_laterC {a b c : World} {r : Option Nat} (h : a.grownBy b r) (k : Later b c) : a.grownBy c r := grown_trans h ⟨k.os, k.tape, k.output, k.size, fun i hi _ => k.block i hi⟩
theorem grown_drewN' {a b : World} {r : Option Nat} (h : a.grownBy b r) (q : Nat) : a.grownBy (b.drewN q) r := grown_trans h (grown_drewN b q r)
theorem grown_drewC {a b : World} {r : Option Nat} (h : a.grownBy b r) : a.grownBy b.drew r := grown_laterC h (Later.refl _).drew
theorem fr_set {g : Nat} {l : List Value} {w : World} (h : Fr g l w) (j : Nat) (u : Value) : Fr g (l.set j u) (w.setCell ⟨g, j, none⟩ u) := by
  refine ⟨by rw [World.size_setCell]; exact h.1, fun i v hi => ?_⟩
  rw [World.frozen?_setCell]
  rw [List.getElem?_set] at hi
  by_cases e : j = i
  · subst e
    rw [if_pos rfl] at hi
    split at hi
    · cases hi
      rename_i hl
      obtain ⟨c, f⟩ := h.2 j _ (List.getElem?_eq_getElem hl)
      exact ⟨World.cell?_setCell_same _ _ _ c, f⟩
    · cases hi
  · rw [if_neg e] at hi
    obtain ⟨c, f⟩ := h.2 i v hi
    refine ⟨?_, f⟩
    rw [World.cell?_setCell_other _ _ _ _ (by simp [e]; try omega)]
    exact c
theorem fr_far {g : Nat} {l : List Value} {w : World} (h : Fr g l w) (p : Addr) (u : Value) (hp : p.block ≠ g) : Fr g l (w.setCell p u) := by
  refine ⟨by rw [World.size_setCell]; exact h.1, fun i v hi => ?_⟩
  obtain ⟨c, f⟩ := h.2 i v hi
  rw [World.frozen?_setCell]
  refine ⟨?_, f⟩
  rw [World.cell?_setCell_far _ _ _ _ hp]
  exact c
theorem fr_kept {g : Nat} {l : List Value} {w w' : World} {r : Option Nat} (h : Fr g l w) (hg : w.grownBy w' r) (hr : r ≠ some g) : Fr g l w' := by
  refine ⟨Nat.lt_of_lt_of_le h.1 hg.size, fun i v hi => ?_⟩
  obtain ⟨c, f⟩ := h.2 i v hi
  exact ⟨hg.cell c (fun e => hr e.symm), by rw [World.frozen?_of_block (w := w) (hg.block g h.1 (fun e => hr e.symm))]; exact f⟩
theorem grown_newset {a b : World} {r : Option Nat} (h : a.grownBy b r) (p : Addr) (u : Value) (hp : a.heap.size ≤ p.block) : a.grownBy (b.setCell p u) r :=
  ⟨h.os, h.tape, h.output, by rw [World.size_setCell]; exact h.size, fun i hi hr => by rw [heap_setCell_other b p i u (by omega)]; exact h.block i hi hr⟩
/-- the closure that sums, its sum in block g -/
def sumF (g : Nat) : Value := .func (.func 76) #[] #[.pointer (some ⟨g, 0, none⟩)]
theorem i_coasting (a b : Int) (w : World) :
    Calls Try.prog 44 #[.agg #[.int .i64 a, .int .i64 b]] w fun e w' => ∃ g, e = .returned (sumF g) ∧ w.heap.size ≤ g ∧ Fr g [.int .i64 a, .int .i64 b] w' ∧ Later w w' := by
  go_enter Try.func44, Try.ntmps44
  go_wp2_with fail
  go_ret
  have F1 := fr_alloc (X := w.alloc (.cells #[.int .i64 a, .int .i64 b] 28)) (l := [.int .i64 a, .int .i64 b]) (T := 28) (Later.refl _)
  rw [World.size_alloc] at F1
  exact ⟨w.heap.size + 1, rfl, by omega, F1, (by repeat (first | (with_reducible exact Later.refl _) | (with_reducible exact Hid.out (by assumption)) | (with_reducible refine Later.alloc ?_ _) | (with_reducible refine Later.setCell ?_ (by simp; omega) _) | (with_reducible refine Later.setCell ?_ (by simp) _) | (with_reducible refine Later.drewN ?_ _) | (with_reducible refine Later.drew ?_) | (with_reducible refine Later.trans ?_ (Hid.out (by assumption)))))⟩
theorem i_coasting1 (x : Sg) (g : Nat) (a b : Int) (w : World) (h : sgB x = true) (hF : Fr g [.int .i64 a, .int .i64 b] w) (ha : -1000000000000 ≤ a) (ha' : a ≤ 1000000000000) (hb : -1000000000000 ≤ b) (hb' : b ≤ 1000000000000) :
    Calls Try.prog 76 #[.agg #[.int .i64 x.k, .int .i64 x.l, .int .i64 x.r, .int .i64 x.a, .int .i64 x.b, .int .i64 x.c, .int .i64 x.d], .pointer (some ⟨g, 0, none⟩)] w fun e w' => e = .returned (.agg #[.int .i64 (a + chL x), .int .i64 (b + chH x)]) ∧ Fr g [.int .i64 (a + chL x), .int .i64 (b + chH x)] w' ∧ w.grownBy w' (some g) := by
  obtain ⟨c1, c2, c3⟩ := ch_bd x h
  have hlt := hF.lt
  have HF := Lib.hid hF
  clear hF
  go_enter Try.func76, Try.ntmps76
  go_upto_region 1 with (fail)
  refine into (fun w' => Fr w.heap.size [.int .i64 x.k, .int .i64 x.l, .int .i64 x.r, .int .i64 x.a, .int .i64 x.b, .int .i64 x.c, .int .i64 x.d] w' ∧ Fr (w.heap.size + 1) [.int .i64 0, .int .i64 0] w' ∧ Fr g [.int .i64 a, .int .i64 b] w' ∧ Later w w') ⟨?_, ?_, fr_later HF.out (by repeat (first | (with_reducible exact Later.refl _) | (with_reducible exact Hid.out (by assumption)) | (with_reducible refine Later.alloc ?_ _) | (with_reducible refine Later.setCell ?_ (by simp; omega) _) | (with_reducible refine Later.setCell ?_ (by simp) _) | (with_reducible refine Later.drewN ?_ _) | (with_reducible refine Later.drew ?_) | (with_reducible refine Later.trans ?_ (Hid.out (by assumption))))), (by repeat (first | (with_reducible exact Later.refl _) | (with_reducible exact Hid.out (by assumption)) | (with_reducible refine Later.alloc ?_ _) | (with_reducible refine Later.setCell ?_ (by simp; omega) _) | (with_reducible refine Later.setCell ?_ (by simp) _) | (with_reducible refine Later.drewN ?_ _) | (with_reducible refine Later.drew ?_) | (with_reducible refine Later.trans ?_ (Hid.out (by assumption)))))⟩ ?_
  · exact fr_later (fr_alloc (X := w) (l := [.int .i64 x.k, .int .i64 x.l, .int .i64 x.r, .int .i64 x.a, .int .i64 x.b, .int .i64 x.c, .int .i64 x.d]) (T := 77) (Later.refl _)) ((Later.refl _).alloc (.cells #[.int .i64 0, .int .i64 0] 28))
  · have F2 := fr_alloc (X := w.alloc (.cells #[.int .i64 x.k, .int .i64 x.l, .int .i64 x.r, .int .i64 x.a, .int .i64 x.b, .int .i64 x.c, .int .i64 x.d] 77)) (l := [.int .i64 0, .int .i64 0]) (T := 28) (Later.refl _)
    rw [World.size_alloc] at F2
    exact F2
  rintro W ⟨X, R, F, hl⟩
  have HL := Lib.hid hl
  obtain ⟨x0, x1, x2, x3, x4, x5, x6, _⟩ := Fr.o7 X
  obtain ⟨r1, r2, r3, r4⟩ := Fr.o2 R
  obtain ⟨f1, f2, f3, f4⟩ := Fr.o2 F
  clear hl X
  go_region_with (first
      | (go_at_call 78; refine (i_coastingChange x _ h).mono ?_; rintro e w1 ⟨rfl, hb⟩; have H := Lib.hid hb; (first | (have F := fr_later F hb; obtain ⟨f1, f2, f3, f4⟩ := Fr.o2 F) | (have F := fr_later F (later_undrew hb); obtain ⟨f1, f2, f3, f4⟩ := Fr.o2 F) | (have F := fr_later F (later_undrewN hb); obtain ⟨f1, f2, f3, f4⟩ := Fr.o2 F)); (first | (have R := fr_later R hb; obtain ⟨r1, r2, r3, r4⟩ := Fr.o2 R) | (have R := fr_later R (later_undrew hb); obtain ⟨r1, r2, r3, r4⟩ := Fr.o2 R) | (have R := fr_later R (later_undrewN hb); obtain ⟨r1, r2, r3, r4⟩ := Fr.o2 R)); clear hb)
      | (go_at_call 77; refine (i_plus _ _ _ _ _ (by omega) (by omega) (by omega) (by omega) (by omega) (by omega) (by omega) (by omega)).mono ?_; rintro e w1 ⟨rfl, hb⟩; have H := Lib.hid hb; (first | (have F := fr_later F hb; obtain ⟨f1, f2, f3, f4⟩ := Fr.o2 F) | (have F := fr_later F (later_undrew hb); obtain ⟨f1, f2, f3, f4⟩ := Fr.o2 F) | (have F := fr_later F (later_undrewN hb); obtain ⟨f1, f2, f3, f4⟩ := Fr.o2 F)); (first | (have R := fr_later R hb; obtain ⟨r1, r2, r3, r4⟩ := Fr.o2 R) | (have R := fr_later R (later_undrew hb); obtain ⟨r1, r2, r3, r4⟩ := Fr.o2 R) | (have R := fr_later R (later_undrewN hb); obtain ⟨r1, r2, r3, r4⟩ := Fr.o2 R)); clear hb))
  all_goals
    have G : Hid (w.grownBy w1 (some g)) := Lib.hid (grown_laterC (grown_refl w (some g)) (by repeat (first | (with_reducible exact Later.refl _) | (with_reducible exact Hid.out (by assumption)) | (with_reducible refine Later.alloc ?_ _) | (with_reducible refine Later.setCell ?_ (by simp; omega) _) | (with_reducible refine Later.setCell ?_ (by simp) _) | (with_reducible refine Later.drewN ?_ _) | (with_reducible refine Later.drew ?_) | (with_reducible refine Later.trans ?_ (Hid.out (by assumption))))))
    have hne : ¬ g = w.heap.size + 1 := by omega
    have hne' : ¬ w.heap.size + 1 = g := by omega
    go_wp2_with fail
    refine bodyPost_ret (v := .agg #[.int .i64 (a + chL x), .int .i64 (b + chH x)]) (by simp [results, Try.results76, go_sem, *]) rfl ⟨rfl, ?_, ?_⟩
    · exact fr_far (fr_far (fr_set (fr_set F 0 _) 1 _) _ _ (by simp <;> omega)) _ _ (by simp <;> omega)
    · exact grown_newset (grown_newset (grown_set1 (grown_set1 G.out _ _) _ _) _ _ (by simp)) _ _ (by simp)
end Go.Proofs.Ytnmlkigpiaekjaa
namespace Go.Proofs.Ytnmlkigpiaekjaa
open Go.RowKit
set_option maxHeartbeats 2000000
set_option linter.unusedVariables false
set_option linter.unusedSimpArgs false
theorem i_IsLayout (a : Option Addr) (n cap : Nat) (L : List Sg) (w : World) (hs : Sgs w a n L) :
    Calls Try.prog 75 #[.agg #[.slice a n cap]] w fun e w' => e = .returned (.bool (layB L)) ∧ Later w w' := by
  have HS := Lib.hid hs
  have HL := Lib.hid hs.1
  clear hs
  by_cases h : 3 ≤ n ∧ n ≤ 24
  · obtain ⟨h1, h2⟩ := h
    obtain ⟨b, off, rfl, hb, hc⟩ := HS.out.at (n - 1) (by omega)
    obtain ⟨c0, c1, c2, c3, c4, c5, c6⟩ := hc
    clear c1 c2 c3 c4 c5 c6
    by_cases hk : (sx L (n - 1)).k = 4
    · have e4 : ((sx L (n - 1)).k != 4) = false := by simp [hk]
      have HK := Lib.hid hk
      clear hk
      go_enter Try.func75, Try.ntmps75
      go_wp2_with fail
      clear c0 e4 hb
      go_loopw [4, 29] (fun hh i wr => ∃ k : Nat, k ≤ n ∧ i = .int .i64 k ∧ hh = .int .i64 (upR L k) ∧ okB L k = true ∧ Later w wr) (fun _ i _ => n - (intOf i).toNat)
      case atStart => exact ⟨0, by omega, rfl, by rw [upR_0], okB_0 L, (Later.refl _).alloc _⟩
      case round =>
        obtain ⟨k, hk, rfl, rfl, hok, hlw⟩ := hrel
        have HO := Lib.hid hok; have HW := Lib.hid hlw; have HZ := Lib.hid hlw.size
        clear hok hlw
        obtain ⟨bd1, bd2, _, _⟩ := up_bd L k (by rw [HL.out]; exact hk) HO.out
        by_cases hlt : k < n
        · obtain ⟨b', off', hbb, hb', hc⟩ := (HS.out.later HW.out).at k hlt
          simp only [Option.some.injEq, Addr.mk.injEq, and_true] at hbb
          obtain ⟨rfl, rfl⟩ := hbb
          obtain ⟨c0, c1, c2, c3, c4, c5, c6⟩ := hc
          cases hv : sgB (sx L k)
          · have HV := Lib.hid (layB_bad HL.out hlt hv)
            go_wp2_with (go_at_call 97; refine (i_IsSegment (sx L k) _).mono ?_; rintro e w1 ⟨rfl, hb⟩; obtain ⟨H, hcc, hff, hzz⟩ := later_facts hb; clear hb; (try simp at hzz); (try simp only [World.heap_drewN, World.cell?_drewN, World.frozen?_drewN] at hcc hff))
            go_ret
            exact ⟨ret_b (by rw [HV.out]), (by repeat (first | exact Later.refl _ | exact Hid.out (by assumption) | refine Later.set_at ?_ ?_ _ _ | refine Later.alloc ?_ _ | refine Later.drewN ?_ _ | refine Later.drew ?_ | refine Later.trans ?_ (Hid.out (by assumption))))⟩
          · have HV := Lib.hid hv
            have hr := (sgB_iff _).1 hv
            have r1 := hr.2.2.1.1; have r2 := hr.2.2.1.2.1
            clear hr
            go_wp2_with (go_at_call 97; refine (i_IsSegment (sx L k) _).mono ?_; rintro e w1 ⟨rfl, hb⟩; obtain ⟨H, hcc, hff, hzz⟩ := later_facts hb; clear hb; (try simp at hzz); (try simp only [World.heap_drewN, World.cell?_drewN, World.frozen?_drewN] at hcc hff))
            go_roundw
            case rel => exact ⟨k + 1, by omega, by go_num, by rw [upR_succ L k (by rw [HL.out]; exact hlt)], by rw [okB_succ L k (by rw [HL.out]; exact hlt), HO.out, HV.out]; rfl, (by repeat (first | exact Later.refl _ | exact Hid.out (by assumption) | refine Later.set_at ?_ ?_ _ _ | refine Later.alloc ?_ _ | refine Later.drewN ?_ _ | refine Later.drew ?_ | refine Later.trans ?_ (Hid.out (by assumption))))⟩
            case measure => simp [intOf]; omega
        · obtain rfl : k = n := by omega
          have HF := Lib.hid (layB_fin HL.out h1 h2 HK.out HO.out)
          clear bd1 bd2
          go_wp2
          go_ret
          exact ⟨ret_b (by rw [HF.out]; first | rfl | (simp; done)), (by repeat (first | exact Later.refl _ | exact Hid.out (by assumption) | refine Later.set_at ?_ ?_ _ _ | refine Later.alloc ?_ _ | refine Later.drewN ?_ _ | refine Later.drew ?_ | refine Later.trans ?_ (Hid.out (by assumption))))⟩
    · have e4 : ((sx L (n - 1)).k != 4) = true := by simpa using hk
      have HF := Lib.hid (layB_last HL.out hk)
      clear hk
      go_enter Try.func75, Try.ntmps75
      go_wp2_with fail
      go_ret
      exact ⟨ret_b (by rw [HF.out]), (by repeat (first | exact Later.refl _ | exact Hid.out (by assumption) | refine Later.set_at ?_ ?_ _ _ | refine Later.alloc ?_ _ | refine Later.drewN ?_ _ | refine Later.drew ?_ | refine Later.trans ?_ (Hid.out (by assumption))))⟩
  · have HF := Lib.hid (layB_len HL.out h)
    have hn : n < 3 ∨ 24 < n := by omega
    clear h
    rcases hn with hn | hn
    all_goals
      go_enter Try.func75, Try.ntmps75
      go_wp2_with fail
      go_ret
      exact ⟨ret_b (by rw [HF.out]), (by repeat (first | exact Later.refl _ | exact Hid.out (by assumption) | refine Later.set_at ?_ ?_ _ _ | refine Later.alloc ?_ _ | refine Later.drewN ?_ _ | refine Later.drew ?_ | refine Later.trans ?_ (Hid.out (by assumption))))⟩
end Go.Proofs.Ytnmlkigpiaekjaa
namespace Go.Proofs.Ytnmlkigpiaekjaa
set_option maxHeartbeats 2000000
set_option linter.unusedVariables false
/-- the set s with r -/
def updB (s : Nat → Bool) (r : Nat) : Nat → Bool := fun j => if j = r then true else s j
theorem updB_at (s : Nat → Bool) (r : Nat) : updB s r r = true := by simp [updB]
theorem updB_ne (s : Nat → Bool) (r j : Nat) (h : j ≠ r) : updB s r j = s j := by simp [updB, h]
/-- the brakes among the first k segments of a run -/
def bsK (L : List Sg) (f : Nat) : Nat → Nat → Bool
  | 0 => fun _ => false
  | k + 1 => if (sx L ((f + k) % L.length)).k = 3 then updB (bsK L f k) ((f + k) % L.length) else bsK L f k
/-- the elements of a set below k -/
def lsK (s : Nat → Bool) : Nat → List Int
  | 0 => []
  | k + 1 => if s k = true then lsK s k ++ [(k : Int)] else lsK s k
theorem lsK_congr {s t : Nat → Bool} : ∀ k, (∀ j, j < k → s j = t j) → lsK s k = lsK t k
  | 0, _ => rfl
  | k + 1, h => by unfold lsK; rw [lsK_congr k (fun j hj => h j (by omega)), h k (by omega)]
theorem lsK_len (s : Nat → Bool) : ∀ k, (lsK s k).length ≤ k
  | 0 => by simp [lsK]
  | k + 1 => by
    have := lsK_len s k
    unfold lsK
    split
    · simp; omega
    · omega
theorem lsK_in (s : Nat → Bool) : ∀ k, k ≤ 1000000 → ∀ x ∈ lsK s k, InR x
  | 0, _, x, hx => by simp [lsK] at hx
  | k + 1, h, x, hx => by
    unfold lsK at hx
    split at hx
    · rcases List.mem_append.1 hx with hx | hx
      · exact lsK_in s k (by omega) x hx
      · simp at hx; subst hx; constructor <;> omega
    · exact lsK_in s k (by omega) x hx
theorem lsK_more {s : Nat → Bool} {n : Nat} (h : ∀ j, n ≤ j → s j = false) : ∀ m, n ≤ m → lsK s m = lsK s n
  | 0, hm => by obtain rfl : n = 0 := by omega
                rfl
  | m + 1, hm => by
    by_cases e : n = m + 1
    · rw [e]
    · have : lsK s (m + 1) = lsK s m := by
        show (if s m = true then lsK s m ++ [(m : Int)] else lsK s m) = _
        rw [h m (by omega)]; rfl
      rw [this, lsK_more h m (by omega)]
/-- the place of the k-th segment of a run -/
theorem idx_cases {n f k : Nat} (hf : f < n) (hk : k < n) : (f + k) % n = if f + k < n then f + k else f + k - n := by
  split
  · rw [Nat.mod_eq_of_lt (by omega)]
  · rename_i h
    rw [Nat.mod_eq_sub_mod (by omega), Nat.mod_eq_of_lt (by omega)]
theorem back_cases {n f j : Nat} (hf : f < n) (hj : j < n) : ((j : Int) - f) % (n : Int) = if f ≤ j then (j : Int) - f else (j : Int) - f + n := by
  split
  · rw [Int.emod_eq_of_lt (by omega) (by omega)]
  · rw [← Int.add_emod_right, Int.emod_eq_of_lt (by omega) (by omega)]
theorem bsK_iff (L : List Sg) (f : Nat) (hf : f < L.length) : ∀ c, c ≤ L.length → ∀ j, j < L.length → (bsK L f c j = true ↔ (sx L j).k = 3 ∧ ((j : Int) - f) % (L.length : Int) < c)
  | 0, _, j, hj => by
    have := back_cases hf hj
    constructor
    · intro h; cases h
    · rintro ⟨_, h⟩
      split at this <;> omega
  | c + 1, hc, j, hj => by
    have ih := bsK_iff L f hf c (by omega) j hj
    have e1 := back_cases hf hj
    have e2 := idx_cases hf (show c < L.length by omega)
    have key : ((j : Int) - f) % (L.length : Int) = c ↔ j = (f + c) % L.length := by
      split at e1 <;> split at e2 <;> omega
    unfold bsK
    generalize hm : ((j : Int) - f) % (L.length : Int) = m at *
    generalize hr : (f + c) % L.length = r at *
    by_cases hj2 : j = r
    · have hm : m = c := key.2 hj2
      subst hj2
      split
      · rename_i h3
        constructor
        · intro _; exact ⟨h3, by omega⟩
        · intro _; exact updB_at _ _
      · rename_i h3
        rw [ih]
        constructor
        · rintro ⟨h4, _⟩; exact absurd h4 h3
        · rintro ⟨h4, _⟩; exact absurd h4 h3
    · have hm : m ≠ c := fun e => hj2 (key.1 e)
      have e : (if (sx L r).k = 3 then updB (bsK L f c) r else bsK L f c) j = bsK L f c j := by
        split
        · exact updB_ne _ _ _ hj2
        · rfl
      rw [e, ih]
      constructor
      · rintro ⟨h1, h2⟩; exact ⟨h1, by omega⟩
      · rintro ⟨h1, h2⟩; exact ⟨h1, by omega⟩
theorem bsK_far (L : List Sg) (f : Nat) (h0 : 0 < L.length) : ∀ c j, L.length ≤ j → bsK L f c j = false
  | 0, _, _ => rfl
  | c + 1, j, hj => by
    have ih := bsK_far L f h0 c j hj
    have hr : (f + c) % L.length < L.length := Nat.mod_lt _ h0
    unfold bsK
    split
    · rw [updB_ne _ _ _ (by omega)]; exact ih
    · exact ih
/-- whether a segment is a brake of a run, by its distance from the run's beginning -/
def mdS (L : List Sg) (f c : Int) (j : Nat) : Bool := decide ((sx L j).k = 3) && decide (((j : Int) - f) % (L.length : Int) < c)
/-- the code and the brakes of BrakesIn -/
def biE (L : List Sg) (f c : Int) : Int := if sgE L f c ≠ 0 then sgE L f c else if (L.length : Int) < c then 2 else 0
def biV (L : List Sg) (f c : Int) : List Int := if biE L f c = 0 then lsK (bsK L f.toNat c.toNat) 24 else []
theorem biV_len (L : List Sg) (f c : Int) : (biV L f c).length ≤ 24 := by
  unfold biV
  split
  · exact lsK_len _ 24
  · simp
theorem biV_model (L : List Sg) (f c : Nat) (hf : f < L.length) (hc : c ≤ L.length) (h24 : L.length ≤ 24) : lsK (bsK L f c) 24 = lsK (mdS L f c) L.length := by
  rw [lsK_more (n := L.length) (fun j hj => bsK_far L f (by omega) c j hj) 24 h24]
  refine lsK_congr _ fun j hj => ?_
  rw [Bool.eq_iff_iff, bsK_iff L f hf c hc j hj]
  unfold mdS
  rw [Bool.and_eq_true, decide_eq_true_iff, decide_eq_true_iff]
end Go.Proofs.Ytnmlkigpiaekjaa
namespace Go.Proofs.Ytnmlkigpiaekjaa
open Go.RowKit
set_option maxHeartbeats 2000000
set_option linter.unusedVariables false
set_option linter.unusedSimpArgs false
/-- 'the slice value (a, n, ..) of structs that are wd cells wide reads as the numbers l' -/
def Wd (w : World) (a : Option Addr) (n wd : Nat) (l : List Int) : Prop :=
  l.length = n * wd ∧ n ≤ 9223372036854775807 ∧ (∀ j, j < n * wd → ∃ b off, a = some ⟨b, off, none⟩ ∧ w.cell? ⟨b, off + j, none⟩ = some (.int .i64 (gx l j))) ∧ ∀ x ∈ l, InR x
theorem Wd.rng {w : World} {a : Option Addr} {n wd : Nat} {l : List Int} (h : Wd w a n wd l) (j : Nat) (hj : j < n * wd) : InR (gx l j) := h.2.2.2 _ (gx_mem l j (by rw [h.1]; exact hj))
theorem Wd.later {w w' : World} {a : Option Addr} {n wd : Nat} {l : List Int} (h : Wd w a n wd l) (hb : Later w w') : Wd w' a n wd l := by
  obtain ⟨h1, h2, h3, h4⟩ := h
  refine ⟨h1, h2, fun j hj => ?_, h4⟩
  obtain ⟨b, off, rfl, hc⟩ := h3 j hj
  exact ⟨b, off, rfl, by rw [hb.cell (p := ⟨b, off + j, none⟩) (cell_lt hc)]; exact hc⟩
theorem Wd.kept {w w' : World} {a : Option Addr} {n wd : Nat} {l : List Int} {r : Option Nat} (h : Wd w a n wd l) (hg : w.grownBy w' r) (hr : ∀ x, a = some x → r ≠ some x.block) : Wd w' a n wd l := by
  obtain ⟨h1, h2, h3, h4⟩ := h
  refine ⟨h1, h2, fun j hj => ?_, h4⟩
  obtain ⟨b, off, rfl, hc⟩ := h3 j hj
  exact ⟨b, off, rfl, hg.cell hc (fun e => hr _ rfl e.symm)⟩
/-- element k of such a slice, its cells from k * 2 on -/
theorem Wd.two {w : World} {a : Option Addr} {n : Nat} {l : List Int} (h : Wd w a n 2 l) (k : Nat) (hk : k < n) :
    ∃ b off, a = some ⟨b, off, none⟩ ∧ w.cell? ⟨b, off + k * 2, none⟩ = some (.int .i64 (gx l (k * 2))) ∧ w.cell? ⟨b, off + k * 2 + 1, none⟩ = some (.int .i64 (gx l (k * 2 + 1))) := by
  obtain ⟨b, off, rfl, h0⟩ := h.2.2.1 (k * 2) (by omega)
  obtain ⟨b', off', e, h1⟩ := h.2.2.1 (k * 2 + 1) (by omega)
  cases e
  exact ⟨b, off, rfl, h0, h1⟩
/-- 'v is such a slice of the call's own, in blocks from base on' -/
def OwnW (w : World) (base : Nat) (T : TypeId) (wd : Nat) (v : Value) (n : Nat) (l : List Int) : Prop :=
  w.ownsRow base T wd v n (l.map (Value.int .i64)) ∧ ∀ x ∈ l, InR x
theorem OwnW.lt {w : World} {base wd n : Nat} {T : TypeId} {v : Value} {l : List Int} (h : OwnW w base T wd v n l) : ∀ k, v.ownBlock = some k → base ≤ k ∧ k < w.heap.size := h.1.lt
theorem OwnW.len {w : World} {base wd n : Nat} {T : TypeId} {v : Value} {l : List Int} (h : OwnW w base T wd v n l) : l.length = n * wd := by have := h.1.1; simpa using this
theorem OwnW.kept {w w' : World} {base wd n : Nat} {T : TypeId} {v : Value} {l : List Int} {row : Option Nat} (h : OwnW w base T wd v n l) (hg : w.grownBy w' row) (hr : ∀ k, v.ownBlock = some k → row ≠ some k) : OwnW w' base T wd v n l := by
  refine ⟨h.1.kept hg ?_, h.2⟩
  cases hv : v.ownBlock with
  | none => exact .inl rfl
  | some k => exact .inr (fun e => hr k hv e.symm)
theorem OwnW.later {w w' : World} {base wd n : Nat} {T : TypeId} {v : Value} {l : List Int} (h : OwnW w base T wd v n l) (k : Later w w') : OwnW w' base T wd v n l :=
  h.kept (row := none) ⟨k.os, k.tape, k.output, k.size, fun i hi _ => k.block i hi⟩ (fun _ _ e => by cases e)
theorem OwnW.mono {w : World} {base base' wd n : Nat} {T : TypeId} {v : Value} {l : List Int} (h : OwnW w base T wd v n l) (hb : base' ≤ base) : OwnW w base' T wd v n l := by
  refine ⟨⟨h.1.1, ?_⟩, h.2⟩
  rcases h.1.2 with h0 | ⟨g, cap, cur, e, hg, r⟩
  · exact .inl h0
  · exact .inr ⟨g, cap, cur, e, by omega, r⟩
theorem ownW_none (w : World) (base wd : Nat) (T : TypeId) : OwnW w base T wd (.slice none 0 0) 0 [] := ⟨⟨by simp, .inl ⟨rfl, rfl⟩⟩, fun x hx => by simp at hx⟩
theorem ownW_new (w : World) (base wd : Nat) (T : TypeId) (h : base ≤ w.heap.size) : OwnW (w.alloc (.cells #[] T)) base T wd (.slice (some ⟨w.heap.size, 0, none⟩) 0 0) 0 [] :=
  ⟨World.ownsRow_made w #[] 0 h (by unfold maxLen; omega) (by simp), fun x hx => by simp at hx⟩
theorem OwnW.wd {w : World} {base wd n : Nat} {T : TypeId} {v : Value} {l : List Int} (h : OwnW w base T wd v n l) : ∃ a cap, v = .slice a n cap ∧ n ≤ cap ∧ Wd w a n wd l ∧ (∀ x, a = some x → base ≤ x.block ∧ x.block < w.heap.size) ∧ (a = none → cap = 0) := by
  have h1 := h.1
  have hlen := h.len
  rcases h1.2 with ⟨rfl, rfl⟩ | ⟨g, cap, cur, rfl, hb, hg, hnc, hcm, _⟩
  · exact ⟨none, 0, rfl, Nat.le_refl _, ⟨hlen, by omega, fun j hj => by simp at hj, h.2⟩, fun x hx => by (cases hx), fun _ => rfl⟩
  · have hm := hcm
    unfold maxLen at hm
    refine ⟨some ⟨g, 0, none⟩, cap, rfl, hnc, ⟨hlen, by omega, fun j hj => ⟨g, 0, rfl, ?_⟩, h.2⟩, fun x hx => by cases hx; exact ⟨hb, (h1.lt g rfl).2⟩, fun e => by cases e⟩
    rw [Nat.zero_add, h1.cellAt j hj, List.getElem?_map, List.getElem?_eq_getElem (by omega), ← gx_of l j (by omega)]; rfl
/-- append(out, M...), the cells of M in a new block -/
theorem appW {ops : Array Oper} {rest : List Oper} {o : Oper} {act : Act} {Q : Exit → Act → World → Prop} (hgd : o.guard = none) (s x : Operand) (T S : TypeId) (z : Value) (wd bytes : Nat)
    (hI : (Try.prog.info? T).map (fun i => (i.zero, i.size, i.bytes)) = some (some z, wd, bytes)) (hU : Try.prog.underlying S = some (.slice T)) (hzs : z.cells.size = wd) (hwd : 0 < wd) (hby : bytes ≤ 1000)
    (ho : o.op = .call { callee := .builtin .append, args := #[s, x], argTypes := #[S, S] })
    (base : Nat) (W : World) (T' : TypeId) (v : Value) (n m : Nat) (l M : List Int) (cells : Array Value) (hcells : cells = (M.map (Value.int .i64)).toArray) (hm : M.length = m * wd) (hown : OwnW W base T wd v n l) (hs : act.eval s = v) (hx : act.eval x = .slice (some ⟨W.heap.size, 0, none⟩) m m) (hy : ∀ x ∈ M, InR x) (hl : n + m ≤ 1000000000) (hbase : base ≤ W.heap.size)
    (h : ∀ v' w', OwnW w' base T wd v' (n + m) (l ++ M) → W.grownBy w' v.ownBlock → wpList Try.prog ops Q rest (act.put o.dst v') w') : wpList Try.prog ops Q (o :: rest) act (W.alloc (.cells cells T')) := by
  subst hcells
  obtain ⟨i0, hi, hz0, hz1, hz2⟩ := info_parts hI
  have hc : ∀ j u, (M.map (Value.int .i64))[j]? = some u → (W.alloc (.cells (M.map (Value.int .i64)).toArray T')).cell? ⟨W.heap.size, j, none⟩ = some u := by
    intro j u hu
    rw [cell_of_row _ _ j _ T' (0, 0) (heap_alloc_new W _)]
    simpa using hu
  have hown' : (W.alloc (.cells (M.map (Value.int .i64)).toArray T')).ownsRow base T wd v n (l.map (Value.int .i64)) := hown.1.alloc _
  have hbb : (n + m) * bytes ≤ 1000000000 * 1000 := Nat.mul_le_mul hl hby
  refine wpList_append_own _ hgd s x _ ho base T i0 z wd bytes hU hi hz0 hz1 hz2 hzs hwd v n _ hs hown' ⟨W.heap.size, 0, none⟩ m m (M.map (Value.int .i64)) hx (by rw [List.length_map, hm]) ?_ ?_ (by unfold maxLen; omega) (by omega) (by show base ≤ (W.alloc _).heap.size; simp; omega) ?_
  · intro j u hj
    rw [Addr.add_lit, Nat.zero_add]
    exact hc j u hj
  · intro u hu
    obtain ⟨y, _, rfl⟩ := List.mem_map.1 hu
    rfl
  · intro v' w' h1 h2 _
    refine h v' w' ⟨?_, ?_⟩ (grown_trans (World.grownBy_alloc W _ _) h2)
    · rw [List.map_append]; exact h1
    · intro z hz
      rcases List.mem_append.1 hz with hz | hz
      · exact hown.2 z hz
      · exact hy z hz
/-- the numbers of a list of intervals, of which k are marked -/
def mrk2 (l : List Int) (k : Nat) : List Int := (List.range l.length).map fun j => if j < k * 2 then 1 + (j : Int) else gx l j
theorem mrk2_len (l : List Int) (k : Nat) : (mrk2 l k).length = l.length := by simp [mrk2]
theorem mrk2_get (l : List Int) (k j : Nat) (h : j < l.length) : (mrk2 l k)[j]? = some (if j < k * 2 then 1 + (j : Int) else gx l j) := by simp [mrk2, h]
theorem mrk2_gx (l : List Int) (k j : Nat) (h : j < l.length) (hj : j < k * 2) : gx (mrk2 l k) j = 1 + (j : Int) := by
  rw [gx_of _ _ (by rw [mrk2_len]; exact h)]
  simp [mrk2, hj]
theorem mrk2_0 (l : List Int) : mrk2 l 0 = l := by
  apply List.ext_getElem?
  intro j
  by_cases h : j < l.length
  · rw [mrk2_get l 0 j h, if_neg (by omega), List.getElem?_eq_getElem h, gx_of l j h]
  · rw [List.getElem?_eq_none (by rw [mrk2_len]; omega), List.getElem?_eq_none (by omega)]
theorem mrk2_set (l : List Int) (k : Nat) (hk : k * 2 + 1 < l.length) : ((mrk2 l k).set (k * 2) (1 + ((k * 2 : Nat) : Int))).set (k * 2 + 1) (1 + ((k * 2 + 1 : Nat) : Int)) = mrk2 l (k + 1) := by
  apply List.ext_getElem?
  intro j
  by_cases h : j < l.length
  · rw [List.getElem?_set, List.getElem?_set, List.length_set, mrk2_len, mrk2_get l k j h, mrk2_get l (k + 1) j h]
    by_cases e : k * 2 + 1 = j
    · subst e; rw [if_pos rfl, if_pos h, if_pos (by omega)]
    · rw [if_neg e]
      by_cases e2 : k * 2 = j
      · subst e2; rw [if_pos rfl, if_pos h, if_pos (by omega)]
      · rw [if_neg e2]
        by_cases c : j < k * 2
        · rw [if_pos c, if_pos (by omega)]
        · rw [if_neg c, if_neg (by omega)]
  · rw [List.getElem?_eq_none (by simp [mrk2]; omega), List.getElem?_eq_none (by simp [mrk2]; omega)]
theorem mrk2_in (l : List Int) (k : Nat) (hl : l.length ≤ 1000000000) (h : ∀ x ∈ l, InR x) : ∀ x ∈ mrk2 l k, InR x := by
  intro x hx
  obtain ⟨j, hj, rfl⟩ := List.mem_map.1 hx
  rw [List.mem_range] at hj
  by_cases c : j < k * 2
  · simp only [if_pos c]; exact ⟨by omega, by omega⟩
  · simp only [if_neg c]; exact h _ (gx_mem l j hj)
end Go.Proofs.Ytnmlkigpiaekjaa
namespace Go.Proofs.Ytnmlkigpiaekjaa
open Go.RowKit
set_option maxHeartbeats 4000000
set_option linter.unusedVariables false
set_option linter.unusedSimpArgs false
theorem sgs_at {w : World} {b off n : Nat} {L : List Sg} (h : Sgs w (some ⟨b, off, none⟩) n L) (k : Nat) (hk : k < n) : SgAt w b (off + k * 7) (sx L k) := by
  obtain ⟨b', off', e, _, h⟩ := h.at k hk
  cases e
  exact h
theorem i_indexAlong (a : Option Addr) (n cap : Nat) (f k r : Nat) (w : World) (h0 : 0 < n) (h24 : n ≤ 24) (hf : f ≤ 24) (hk : k ≤ 24) (hr : r = (f + k) % n) :
    Calls Try.prog 68 #[.agg #[.slice a n cap], .int .i64 f, .int .i64 k] w fun e w' => e = .returned (.int .i64 (r : Int)) ∧ Later w w' := by
  have hmod : ((f : Int) + (k : Int)).tmod (n : Int) = (r : Int) := by
    rw [Int.tmod_eq_emod_of_nonneg (by omega), hr, Int.natCast_emod, Int.natCast_add]
  have hwr : IntKind.i64.wrap ((f : Int) + (k : Int)) = (f : Int) + (k : Int) := IntWalk.i64_in _ (by omega)
  have hn0 : ¬ n = 0 := by omega
  have hrn : r < n := by rw [hr]; exact Nat.mod_lt _ h0
  clear hr h0
  go_enter Try.func68, Try.ntmps68
  go_wp2_with fail
  go_ret
  exact ⟨ret_i64 rfl, (by repeat (first | (with_reducible exact Later.refl _) | (with_reducible exact Hid.out (by assumption)) | (with_reducible refine Later.alloc ?_ _) | (with_reducible refine Later.setCell ?_ (by simp; omega) _) | (with_reducible refine Later.setCell ?_ (by simp) _) | (with_reducible refine Later.drewN ?_ _) | (with_reducible refine Later.drew ?_) | (with_reducible refine Later.trans ?_ (Hid.out (by assumption)))))⟩
end Go.Proofs.Ytnmlkigpiaekjaa
namespace Go.Proofs.Ytnmlkigpiaekjaa
open Go.RowKit
set_option maxHeartbeats 4000000
set_option linter.unusedVariables false
set_option linter.unusedSimpArgs false
/-- append(out, M...) as one step of a region that draws its order: M's cells lie where x points -/
theorem stepS {ops : Array Oper} {o : Oper} {a : Act} {W : World} {K : Act → World → Prop} {Q : Exit → Act → World → Prop} {E : Prop} (hgd : o.guard = none) (s x : Operand)
    (ho : o.op = .call { callee := .builtin .append, args := #[s, x], argTypes := #[24, 24] })
    (base : Nat) (v : Value) (L M : List Sg) (ad : Addr) (m c : Nat) (hown : OwnS W base v L) (hcell : ∀ j u, (sgVals M)[j]? = some u → W.cell? (ad.add j) = some u) (hm : M.length = m) (hy : ∀ x ∈ M, x.In) (hs : a.eval s = v) (hx : a.eval x = .slice (some ad) m c) (hl : L.length + m ≤ 1000000000) (hbase : base ≤ W.heap.size)
    (h : ∀ v' w', OwnS w' base v' (L ++ M) → W.grownBy w' v.ownBlock → K (a.put o.dst v') w') : if Region.wanted o (yielded ops a.tmps) = true then Oper.wp Try.prog o a W K Q else E := by
  have hw : Region.wanted o (yielded ops a.tmps) = true := by simp [Region.wanted, hgd]
  rw [if_pos hw]
  obtain ⟨i0, hi, hz0, hz1, hz2⟩ := info_parts info_sg
  subst hm
  obtain ⟨v', w', hrun, r1, r2, _⟩ := run_append_own (P := Try.prog) W base 24 o.type 77 i0 (.agg #[.int .i64 0, .int .i64 0, .int .i64 0, .int .i64 0, .int .i64 0, .int .i64 0, .int .i64 0]) 7 56 Try.underlying24 hi hz0 hz1 hz2 rfl (by decide) v L.length _ hown.1 ad M.length c (sgVals M) (by rw [sgVals_len]) hcell (fun u hu => by
    obtain ⟨j, hj, e⟩ := List.getElem_of_mem hu
    have hf := sgVals_flt M j (by rw [sgVals_len] at hj; exact hj)
    rw [List.getElem?_eq_getElem hj, e] at hf
    cases hf; rfl) (by unfold maxLen; omega) (by omega) hbase
  unfold Oper.wp
  simp [execOp, ho, resolve, invoke, builtin, hs, hx, hrun, Result.andThen]
  refine h v' w' ⟨by rw [sgVals_app, List.length_append]; exact r1, ?_⟩ r2
  intro z hz
  rcases List.mem_append.1 hz with hz | hz
  · exact hown.2 z hz
  · exact hy z hz
theorem cells_alloc (X : World) (l : List Value) (T : TypeId) : ∀ j u, l[j]? = some u → (X.alloc (.cells l.toArray T)).cell? ((⟨X.heap.size, 0, none⟩ : Addr).add j) = some u := by
  intro j u hu
  rw [Addr.add_lit, Nat.zero_add, cell_of_row _ _ j _ T (0, 0) (heap_alloc_new X _)]
  simpa using hu
/-- what a run leaves -/
def GivesS (w : World) (R : List Sg) (c : Int) (e : Ending) (w' : World) : Prop :=
  ∃ v, e = .returned (.tuple #[v, .int .i64 c]) ∧ OwnS w' w.heap.size v R ∧ Later w w'
set_option maxRecDepth 100000 in
theorem i_segmentsAlong (a : Option Addr) (n cap : Nat) (L : List Sg) (f c : Int) (w : World) (hs : Sgs w a n L) :
    Calls Try.prog 43 #[.agg #[.slice a n cap], .int .i64 f, .int .i64 c] w (GivesS w (sgV L f c) (sgE L f c)) := by
  have HS := Lib.hid hs
  have HL := Lib.hid hs.1
  have hn := hs.2.1
  clear hs
  cases hv : layB L
  · have E1 : Hid (sgE L f c = 1) := Lib.hid (by unfold sgE; rw [hv]; rfl)
    have E2 : Hid (sgV L f c = []) := Lib.hid (by unfold sgV; rw [E1.out]; rfl)
    go_enter Try.func43, Try.ntmps43
    go_wp2_with fail
    refine (i_IsLayout a n cap L _ (HS.out.later (by repeat (first | (with_reducible exact Later.refl _) | (with_reducible exact Hid.out (by assumption)) | (with_reducible refine Later.alloc ?_ _) | (with_reducible refine Later.setCell ?_ (by simp; omega) _) | (with_reducible refine Later.setCell ?_ (by simp) _) | (with_reducible refine Later.drewN ?_ _) | (with_reducible refine Later.drew ?_) | (with_reducible refine Later.trans ?_ (Hid.out (by assumption))))))).mono ?_
    rw [hv]
    rintro e w1 ⟨rfl, hb⟩
    have H1 := Lib.hid hb
    clear hb
    go_wp2_with fail
    go_ret2
    exact ⟨.slice none 0 0, by rw [E1.out]; rfl, by rw [E2.out]; exact ownS_none _ _, (by repeat (first | (with_reducible exact Later.refl _) | (with_reducible exact Hid.out (by assumption)) | (with_reducible refine Later.alloc ?_ _) | (with_reducible refine Later.setCell ?_ (by simp; omega) _) | (with_reducible refine Later.setCell ?_ (by simp) _) | (with_reducible refine Later.drewN ?_ _) | (with_reducible refine Later.drew ?_) | (with_reducible refine Later.trans ?_ (Hid.out (by assumption)))))⟩
  · by_cases hr : 0 ≤ f ∧ f < (n : Int) ∧ 0 ≤ c ∧ c ≤ 24
    · obtain ⟨f', rfl⟩ : ∃ f' : Nat, f = (f' : Int) := ⟨f.toNat, by omega⟩
      obtain ⟨c', rfl⟩ : ∃ c' : Nat, c = (c' : Int) := ⟨c.toNat, by omega⟩
      have E1 : Hid (sgE L (f' : Int) (c' : Int) = 0) := Lib.hid (by unfold sgE; rw [hv, if_pos rfl, HL.out, if_pos hr])
      have E2 : Hid (sgV L (f' : Int) (c' : Int) = runS L f' c') := Lib.hid (by unfold sgV; rw [E1.out]; rfl)
      obtain ⟨_, h2, _, h4⟩ := hr
      have h24 : n ≤ 24 := by have := (layB_iff L).1 hv; have := HL.out; omega
      have hf : f' < n := by omega
      have hnf : ¬ n ≤ f' := by omega
      have hc : c' ≤ 24 := by omega
      clear h4
      go_enter Try.func43, Try.ntmps43
      go_wp2_with fail
      refine (i_IsLayout a n cap L _ (HS.out.later (by repeat (first | (with_reducible exact Later.refl _) | (with_reducible exact Hid.out (by assumption)) | (with_reducible refine Later.alloc ?_ _) | (with_reducible refine Later.setCell ?_ (by simp; omega) _) | (with_reducible refine Later.setCell ?_ (by simp) _) | (with_reducible refine Later.drewN ?_ _) | (with_reducible refine Later.drew ?_) | (with_reducible refine Later.trans ?_ (Hid.out (by assumption))))))).mono ?_
      rw [hv]
      rintro e w1 ⟨rfl, hb⟩
      have H1 := Lib.hid hb
      have hc1 : w1.cell? ⟨w.heap.size, 0, none⟩ = some (.slice a n cap) := by rw [hb.cell (p := ⟨w.heap.size, 0, none⟩) (by simp)]; simp
      have hz1 : w.heap.size < w1.heap.size := sg_cell_lt hc1
      clear hb
      go_wp2_with fail
      go_loopw [8, 31] (fun v i wr => ∃ k : Nat, k ≤ c' ∧ i = .int .i64 k ∧ OwnS wr (w.heap.size + 1) v (runS L f' k) ∧ wr.cell? ⟨w.heap.size, 0, none⟩ = some (.slice a n cap) ∧ Later w wr) (fun _ i _ => c' - (intOf i).toNat)
      case atStart => exact ⟨0, by omega, rfl, by rw [runS_0]; exact ownS_none _ _, hc1, (by repeat (first | (with_reducible exact Later.refl _) | (with_reducible exact Hid.out (by assumption)) | (with_reducible refine Later.alloc ?_ _) | (with_reducible refine Later.setCell ?_ (by simp; omega) _) | (with_reducible refine Later.setCell ?_ (by simp) _) | (with_reducible refine Later.drewN ?_ _) | (with_reducible refine Later.drew ?_) | (with_reducible refine Later.trans ?_ (Hid.out (by assumption)))))⟩
      case round =>
        have hf24 : f' ≤ 24 := by omega
        have hn0 : ¬ n = 0 := by omega
        clear hc1 hz1 hf h2
        obtain ⟨k, hk, rfl, ho, hc1, hlw⟩ := hrel
        have HO := Lib.hid ho; have HW := Lib.hid hlw
        have hz1 : w.heap.size < wr.heap.size := sg_cell_lt hc1
        clear ho hlw
        by_cases hlt : k < c'
        · obtain ⟨r, hr⟩ : ∃ r, r = (f' + k) % n := ⟨_, rfl⟩
          have hrn : r < n := by rw [hr]; exact Nat.mod_lt _ (by omega)
          have HI := fun W => i_indexAlong a n cap f' k r W (by omega) h24 hf24 (by omega) hr
          have HR : Hid (runS L f' (k + 1) = runS L f' k ++ [sx L r]) := Lib.hid (by rw [runS_succ, HL.out, ← hr])
          obtain ⟨b, off, rfl, hb, hcc⟩ := (HS.out.later HW.out).at r hrn
          have hin := HS.out.in r hrn
          obtain ⟨c0, c1, c2, c3, c4, c5, c6⟩ := hcc
          clear hr
          go_wp2_with fail
          go_region_law (first
            | (refine stepS rfl (.tmp 34) (.tmp 43) rfl (w.heap.size + 1) _ (runS L f' k) [sx L r] _ 1 1 (HO.out.below (by repeat (first | (with_reducible exact Later.refl _) | (with_reducible exact Hid.out (by assumption)) | (with_reducible refine Later.alloc ?_ _) | (with_reducible refine Later.setCell ?_ (by simp; omega) _) | (with_reducible refine Later.setCell ?_ (by simp) _) | (with_reducible refine Later.drewN ?_ _) | (with_reducible refine Later.drew ?_) | (with_reducible refine Later.trans ?_ (Hid.out (by assumption)))))) (cells_alloc _ _ _) rfl (fun x hx => by simp at hx; subst hx; exact hin) (by simp [Act.eval, Act.put]) (by simp [Act.eval, Act.put]) (by rw [runS_len]; omega) (by simp; omega) ?_; intro v' w4 ho4 hg4; have O4 := Lib.hid ho4; have G4 := Lib.hid hg4; clear ho4 hg4)
            | (go_simp; go_at_call 68; refine (HI _).mono ?_; rintro e w7 ⟨rfl, hb7⟩; have H7 := Lib.hid hb7; clear hb7; obtain ⟨d0, d1, d2, d3, d4, d5, d6⟩ := sgs_at (HS.out.later (show Later w w7 from (by repeat (first | (with_reducible exact Later.refl _) | (with_reducible exact Hid.out (by assumption)) | (with_reducible refine Later.alloc ?_ _) | (with_reducible refine Later.setCell ?_ (by simp; omega) _) | (with_reducible refine Later.setCell ?_ (by simp) _) | (with_reducible refine Later.drewN ?_ _) | (with_reducible refine Later.drew ?_) | (with_reducible refine Later.trans ?_ (Hid.out (by assumption))))))) r hrn; have hc7 : w7.cell? ⟨w.heap.size, 0, none⟩ = some (.slice (some ⟨b, off, none⟩) n cap) := ((show Later wr w7 from (by repeat (first | (with_reducible exact Later.refl _) | (with_reducible exact Hid.out (by assumption)) | (with_reducible refine Later.alloc ?_ _) | (with_reducible refine Later.setCell ?_ (by simp; omega) _) | (with_reducible refine Later.setCell ?_ (by simp) _) | (with_reducible refine Later.drewN ?_ _) | (with_reducible refine Later.drew ?_) | (with_reducible refine Later.trans ?_ (Hid.out (by assumption)))))).cell (p := ⟨w.heap.size, 0, none⟩) hz1).trans hc1; have hz7 : w.heap.size < w7.heap.size := sg_cell_lt hc7))
          all_goals
            have H4 : Hid (Later w w4) := Lib.hid (Below.grown (show Later w _ from (by repeat (first | (with_reducible exact Later.refl _) | (with_reducible exact Hid.out (by assumption)) | (with_reducible refine Later.alloc ?_ _) | (with_reducible refine Later.setCell ?_ (by simp; omega) _) | (with_reducible refine Later.setCell ?_ (by simp) _) | (with_reducible refine Later.drewN ?_ _) | (with_reducible refine Later.drew ?_) | (with_reducible refine Later.trans ?_ (Hid.out (by assumption)))))) G4.out (by simp; omega) (fun j e => by have := (HO.out.lt j e).1; omega))
            have hc4 : w4.cell? ⟨w.heap.size, 0, none⟩ = some (.slice (some ⟨b, off, none⟩) n cap) := G4.out.cell (((show Later wr _ from (by repeat (first | (with_reducible exact Later.refl _) | (with_reducible exact Hid.out (by assumption)) | (with_reducible refine Later.alloc ?_ _) | (with_reducible refine Later.setCell ?_ (by simp; omega) _) | (with_reducible refine Later.setCell ?_ (by simp) _) | (with_reducible refine Later.drewN ?_ _) | (with_reducible refine Later.drew ?_) | (with_reducible refine Later.trans ?_ (Hid.out (by assumption)))))).cell (p := ⟨w.heap.size, 0, none⟩) hz1).trans hc1) (fun e => by have := (HO.out.lt _ e.symm).1; simp at this; omega)
            clear c0 c1 c2 c3 c4 c5 c6 d0 d1 d2 d3 d4 d5 d6 hc7 hz7
            go_wp2_with fail
            go_roundw
            case rel => exact ⟨k + 1, by omega, by go_num, by rw [HR.out]; exact O4.out, hc4, H4.out⟩
            case measure => simp [intOf]; omega
        · obtain rfl : k = c' := by omega
          go_wp2_with fail
          go_ret2
          exact ⟨_, by rw [E1.out]; rfl, by rw [E2.out]; exact HO.out.mono (by omega), HW.out⟩
    · have E1 : Hid (sgE L f c = 2) := Lib.hid (by unfold sgE; rw [hv, if_pos rfl, HL.out, if_neg hr])
      have E2 : Hid (sgV L f c = []) := Lib.hid (by unfold sgV; rw [E1.out]; rfl)
      have hr2 : f < 0 ∨ (0 ≤ f ∧ (n : Int) ≤ f) ∨ (0 ≤ f ∧ f < (n : Int) ∧ c < 0) ∨ (0 ≤ f ∧ f < (n : Int) ∧ 0 ≤ c ∧ 24 < c) := by omega
      clear hr
      rcases hr2 with h1 | ⟨h1, h2⟩ | ⟨h1, h2, h3⟩ | ⟨h1, h2, h3, h4⟩
      all_goals
        go_enter Try.func43, Try.ntmps43
        go_wp2_with fail
        refine (i_IsLayout a n cap L _ (HS.out.later (by repeat (first | (with_reducible exact Later.refl _) | (with_reducible exact Hid.out (by assumption)) | (with_reducible refine Later.alloc ?_ _) | (with_reducible refine Later.setCell ?_ (by simp; omega) _) | (with_reducible refine Later.setCell ?_ (by simp) _) | (with_reducible refine Later.drewN ?_ _) | (with_reducible refine Later.drew ?_) | (with_reducible refine Later.trans ?_ (Hid.out (by assumption))))))).mono ?_
        rw [hv]
        rintro e w1 ⟨rfl, hb⟩
        have H1 := Lib.hid hb
        have hc1 : w1.cell? ⟨w.heap.size, 0, none⟩ = some (.slice a n cap) := by rw [hb.cell (p := ⟨w.heap.size, 0, none⟩) (by simp)]; simp
        clear hb
        go_wp2_with fail
        go_ret2
        exact ⟨.slice none 0 0, by rw [E1.out]; rfl, by rw [E2.out]; exact ownS_none _ _, (by repeat (first | (with_reducible exact Later.refl _) | (with_reducible exact Hid.out (by assumption)) | (with_reducible refine Later.alloc ?_ _) | (with_reducible refine Later.setCell ?_ (by simp; omega) _) | (with_reducible refine Later.setCell ?_ (by simp) _) | (with_reducible refine Later.drewN ?_ _) | (with_reducible refine Later.drew ?_) | (with_reducible refine Later.trans ?_ (Hid.out (by assumption)))))⟩
end Go.Proofs.Ytnmlkigpiaekjaa
namespace Go.Proofs.Ytnmlkigpiaekjaa
open Go.RowKit
set_option maxHeartbeats 2000000
set_option linter.unusedVariables false
set_option linter.unusedSimpArgs false
theorem info_iv : (Try.prog.info? 28).map (fun i => (i.zero, i.size, i.bytes)) = some (some (.agg #[.int .i64 0, .int .i64 0]), 2, 16) := by kernel_rfl
/-- a slice of intervals of the call's own -/
def OwnI (w : World) (base : Nat) (v : Value) (n : Nat) (l : List Int) : Prop := OwnW w base 28 2 v n l
/-- append(out, e) -/
theorem appI {ops : Array Oper} {rest : List Oper} {o : Oper} {act : Act} {Q : Exit → Act → World → Prop} (hgd : o.guard = none) (s x : Operand)
    (ho : o.op = .call { callee := .builtin .append, args := #[s, x], argTypes := #[31, 31] })
    (base : Nat) (W : World) (T' : TypeId) (v : Value) (n : Nat) (l : List Int) (y z : Int) (hown : OwnI W base v n l) (hs : act.eval s = v) (hx : act.eval x = .slice (some ⟨W.heap.size, 0, none⟩) 1 1) (hy : InR y) (hz : InR z) (hl : n + 1 ≤ 1000000000) (hbase : base ≤ W.heap.size)
    (h : ∀ v' w', OwnI w' base v' (n + 1) (l ++ [y, z]) → W.grownBy w' v.ownBlock → wpList Try.prog ops Q rest (act.put o.dst v') w') : wpList Try.prog ops Q (o :: rest) act (W.alloc (.cells #[.int .i64 y, .int .i64 z] T')) :=
  appW hgd s x _ _ _ 2 16 info_iv Try.underlying31 rfl (by decide) (by decide) ho base W T' v n 1 l [y, z] _ rfl rfl hown hs hx (fun u hu => by simp at hu; rcases hu with rfl | rfl <;> assumption) hl hbase h
theorem l_eqInterval_same2 (a b : Int) (w : World) : Calls Try.prog 52 #[.agg #[.int .i64 a, .int .i64 b], .agg #[.int .i64 a, .int .i64 b]] w fun e w' => e = .returned (.bool true) ∧ Later w w' :=
  (l_eqInterval a b a b w).mono fun e w' ⟨h, k⟩ => ⟨h.trans (ret_b (by simp)), k⟩
theorem l_eqIntervalS_same (a b : Option Addr) (n cap m cap' : Nat) (l : List Int) (w : World) (hs : Wd w a n 2 l) (ht : Wd w b m 2 l) :
    Calls Try.prog 22 #[.slice a n cap, .slice b m cap'] w fun e w' => e = .returned (.bool true) ∧ Later w w' := by
  have hn := hs.1; have hm := ht.1
  obtain rfl : n = m := by omega
  have HS := Lib.hid hs; have HT := Lib.hid ht
  have hn' := hs.2.1
  clear hs ht hm hn
  have e0 : ((n : Int) != (n : Int)) = false := by simp
  go_enter Try.func22, Try.ntmps22
  go_wp2
  go_loopw [5] (fun i wr => ∃ k : Nat, k ≤ n ∧ i = .int .i64 k ∧ Later w wr) (fun i _ => n - (intOf i).toNat)
  case atStart => exact ⟨0, by omega, rfl, Later.refl _⟩
  case round =>
    obtain ⟨k, hk, rfl, hlw⟩ := hrel
    have HW := Lib.hid hlw
    clear hlw
    by_cases hlt : k < n
    · obtain ⟨b1, o1, rfl, c1, c2⟩ := (HS.out.later HW.out).two k hlt
      obtain ⟨b2, o2, rfl, d1, d2⟩ := (HT.out.later HW.out).two k hlt
      have C := Lib.hid c1; have C' := Lib.hid c2; have D := Lib.hid d1; have D' := Lib.hid d2
      have KL : Hid (∀ W', Later wr W' → W'.cell? ⟨b1, o1 + k * 2, none⟩ = some (.int .i64 (gx l (k * 2))) ∧ W'.cell? ⟨b1, o1 + k * 2 + 1, none⟩ = some (.int .i64 (gx l (k * 2 + 1))) ∧ W'.cell? ⟨b2, o2 + k * 2, none⟩ = some (.int .i64 (gx l (k * 2))) ∧ W'.cell? ⟨b2, o2 + k * 2 + 1, none⟩ = some (.int .i64 (gx l (k * 2 + 1)))) := Lib.hid (fun W' q => ⟨by rw [q.cell (p := ⟨b1, o1 + k * 2, none⟩) (cell_lt C.out)]; exact C.out, by rw [q.cell (p := ⟨b1, o1 + k * 2 + 1, none⟩) (cell_lt C.out)]; exact C'.out, by rw [q.cell (p := ⟨b2, o2 + k * 2, none⟩) (cell_lt D.out)]; exact D.out, by rw [q.cell (p := ⟨b2, o2 + k * 2 + 1, none⟩) (cell_lt D.out)]; exact D'.out⟩)
      go_wp2_with fail
      go_region_held3 (fun w' => w'.cell? ⟨b1, o1 + k * 2, none⟩ = some (.int .i64 (gx l (k * 2))) ∧ w'.cell? ⟨b1, o1 + k * 2 + 1, none⟩ = some (.int .i64 (gx l (k * 2 + 1))) ∧ w'.cell? ⟨b2, o2 + k * 2, none⟩ = some (.int .i64 (gx l (k * 2))) ∧ w'.cell? ⟨b2, o2 + k * 2 + 1, none⟩ = some (.int .i64 (gx l (k * 2 + 1)))) (exact KL.out _ (by repeat (first | (with_reducible exact Later.refl _) | (with_reducible exact Hid.out (by assumption)) | (with_reducible refine Later.alloc ?_ _) | (with_reducible refine Later.setCell ?_ (by simp; omega) _) | (with_reducible refine Later.setCell ?_ (by simp) _) | (with_reducible refine Later.drewN ?_ _) | (with_reducible refine Later.drew ?_) | (with_reducible refine Later.trans ?_ (Hid.out (by assumption))))))
        (first | (go_at_call 52; refine (l_eqInterval_same2 _ _ _).mono ?_; rintro e w1 ⟨rfl, hb1⟩; have H1 := Lib.hid hb1; clear hb1))
      all_goals
        go_wp2
        go_roundw
        case rel => exact ⟨k + 1, by omega, by go_num, (by repeat (first | (with_reducible exact Later.refl _) | (with_reducible exact Hid.out (by assumption)) | (with_reducible refine Later.alloc ?_ _) | (with_reducible refine Later.setCell ?_ (by simp; omega) _) | (with_reducible refine Later.setCell ?_ (by simp) _) | (with_reducible refine Later.drewN ?_ _) | (with_reducible refine Later.drew ?_) | (with_reducible refine Later.trans ?_ (Hid.out (by assumption)))))⟩
        case measure => simp [intOf]; omega
    · obtain rfl : k = n := by omega
      go_wp2
      go_ret
      exact ⟨rfl, HW.out⟩
theorem l_likeIntervals_same (a b : Option Addr) (n cap m cap' : Nat) (l : List Int) (w : World) (hs : Wd w a n 2 l) (ht : Wd w b m 2 l) :
    Calls Try.prog 13 #[.slice a n cap, .slice b m cap'] w fun e w' => e = .returned (.bool true) ∧ Later w w' := by
  have hn := hs.1; have hm := ht.1
  obtain rfl : n = m := by omega
  have HS := Lib.hid hs; have HT := Lib.hid ht
  have hn' := hs.2.1
  clear hs ht hm hn
  have e0 : ((n : Int) != (n : Int)) = false := by simp
  go_enter Try.func13, Try.ntmps13
  go_wp2
  go_loopw [5] (fun i wr => ∃ k : Nat, k ≤ n ∧ i = .int .i64 k ∧ Later w wr) (fun i _ => n - (intOf i).toNat)
  case atStart => exact ⟨0, by omega, rfl, Later.refl _⟩
  case round =>
    obtain ⟨k, hk, rfl, hlw⟩ := hrel
    have HW := Lib.hid hlw
    clear hlw
    by_cases hlt : k < n
    · obtain ⟨b1, o1, rfl, c1, c2⟩ := (HS.out.later HW.out).two k hlt
      obtain ⟨b2, o2, rfl, d1, d2⟩ := (HT.out.later HW.out).two k hlt
      generalize gx l (k * 2) = x at c1 d1
      generalize gx l (k * 2 + 1) = y at c2 d2
      go_wp2_with fail
      go_quiet (fail)
      go_wp2_with fail
      go_roundw
      case rel => exact ⟨k + 1, by omega, by go_num, (by repeat (first | (with_reducible exact Later.refl _) | (with_reducible exact Hid.out (by assumption)) | (with_reducible refine Later.alloc ?_ _) | (with_reducible refine Later.setCell ?_ (by simp; omega) _) | (with_reducible refine Later.setCell ?_ (by simp) _) | (with_reducible refine Later.drewN ?_ _) | (with_reducible refine Later.drew ?_) | (with_reducible refine Later.trans ?_ (Hid.out (by assumption)))))⟩
      case measure => simp [intOf]; omega
    · obtain rfl : k = n := by omega
      go_wp2
      go_ret
      exact ⟨rfl, HW.out⟩
/-- what marking leaves -/
def Marked2 (w : World) (base : Nat) (v : Value) (n : Nat) (l : List Int) (e : Ending) (w' : World) : Prop :=
  e = .returned (.int .i64 (1 + 2 * (n : Int))) ∧ OwnI w' base v n (mrk2 l n) ∧ w.grownBy w' v.ownBlock
theorem l_markIntervalS (v : Value) (base n : Nat) (l : List Int) (w : World) (ho : OwnI w base v n l) (hl : n ≤ 100000000) :
    Calls Try.prog 25 #[v, .int .i64 1] w (Marked2 w base v n l) := by
  have HI := Lib.hid ho.2
  have hlen := ho.len
  rcases ho.1.2 with ⟨rfl, h0⟩ | ⟨g, cap, cur, rfl, hb, hg, hnc, hcm, _⟩
  · subst h0
    have e : l = [] := List.length_eq_zero_iff.1 (by omega)
    subst e
    have HO := Lib.hid ho
    clear ho hlen
    go_enter Try.func25, Try.ntmps25
    go_wp2
    go_loop [1, 5] (fun m i => i = .int .i64 0 ∧ m = .int .i64 1) (fun _ _ => 0)
    case atStart => exact ⟨rfl, rfl⟩
    case round =>
      obtain ⟨rfl, rfl⟩ := hrel
      go_wp2
      go_ret
      exact ⟨rfl, HO.out, ⟨rfl, rfl, rfl, Nat.le_refl _, fun _ _ _ => rfl⟩⟩
  · have HL := Lib.hid hlen
    have O1 : Hid (w.ownsRow base 28 2 (.slice (some ⟨g, 0, none⟩) n cap) n ((mrk2 l 0).map (Value.int .i64))) := Lib.hid (by rw [mrk2_0]; exact ho.1)
    clear hg hnc hcm ho hb hlen
    go_enter Try.func25, Try.ntmps25
    go_wp2
    go_loopw [1, 5] (fun m i wr => ∃ k : Nat, k ≤ n ∧ i = .int .i64 k ∧ m = .int .i64 (1 + 2 * (k : Int)) ∧ wr.ownsRow base 28 2 (.slice (some ⟨g, 0, none⟩) n cap) n ((mrk2 l k).map (Value.int .i64)) ∧ w.grownBy wr (some g)) (fun _ i _ => n - (intOf i).toNat)
    case atStart => exact ⟨0, by omega, rfl, rfl, O1.out, ⟨rfl, rfl, rfl, Nat.le_refl _, fun _ _ _ => rfl⟩⟩
    case round =>
      obtain ⟨k, hk, rfl, rfl, ho, hg⟩ := hrel
      have HR := Lib.hid ho; have HG := Lib.hid hg
      clear ho hg
      by_cases hlt : k < n
      · obtain ⟨z, hz⟩ : ∃ z, wr.cell? ⟨g, k * 2, none⟩ = some (.int .i64 z) := ⟨_, by rw [HR.out.cellAt (k * 2) (by omega), List.getElem?_map, mrk2_get l k (k * 2) (by rw [HL.out]; omega)]; rfl⟩
        obtain ⟨z2, hz2⟩ : ∃ z, wr.cell? ⟨g, k * 2 + 1, none⟩ = some (.int .i64 z) := ⟨_, by rw [HR.out.cellAt (k * 2 + 1) (by omega), List.getElem?_map, mrk2_get l k (k * 2 + 1) (by rw [HL.out]; omega)]; rfl⟩
        have hf : wr.frozen? ⟨g, k * 2, none⟩ = false := HR.out.frozenAt _
        have hf2 : wr.frozen? ⟨g, k * 2 + 1, none⟩ = false := HR.out.frozenAt _
        have hset : Hid ((((mrk2 l k).map (Value.int .i64)).set (k * 2) (.int .i64 (1 + 2 * (k : Int)))).set (k * 2 + 1) (.int .i64 (1 + 2 * (k : Int) + 1)) = (mrk2 l (k + 1)).map (Value.int .i64)) := Lib.hid (by rw [← mrk2_set l k (by rw [HL.out]; omega), List.map_set, List.map_set, show ((k * 2 : Nat) : Int) = 2 * (k : Int) by omega, show (1 : Int) + ((k * 2 + 1 : Nat) : Int) = 1 + 2 * (k : Int) + 1 by omega])
        go_wp2
        go_roundw
        case rel => exact ⟨k + 1, by omega, by go_num, by go_num, by rw [← hset.out]; exact ((HR.out.stored _ _).1.stored _ _).1, grown_trans (grown_trans HG.out (HR.out.stored _ _).2) ((HR.out.stored _ _).1.stored _ _).2⟩
        case measure => simp [intOf]; omega
      · obtain rfl : k = n := by omega
        go_wp2
        go_ret
        exact ⟨rfl, ⟨HR.out, mrk2_in l _ (by rw [HL.out]; omega) HI.out⟩, HG.out⟩
theorem l_heldIntervalS (v : Value) (base n : Nat) (l : List Int) (w : World) (ho : OwnI w base v n (mrk2 l n)) (hl : n ≤ 100000000) :
    Calls Try.prog 26 #[v, .int .i64 1] w fun e w' => e = .returned (.int .i64 (1 + 2 * (n : Int))) ∧ w = w' := by
  obtain ⟨a, cap, rfl, _, hs, _⟩ := ho.wd
  have HS := Lib.hid hs
  have HL : Hid (l.length = n * 2) := Lib.hid (by have := ho.len; rw [mrk2_len] at this; exact this)
  clear hs ho
  go_enter Try.func26, Try.ntmps26
  go_wp2
  go_loop [1, 5] (fun m i => ∃ k : Nat, k ≤ n ∧ i = .int .i64 k ∧ m = .int .i64 (1 + 2 * (k : Int))) (fun _ i => n - (intOf i).toNat)
  case atStart => exact ⟨0, by omega, rfl, rfl⟩
  case round =>
    obtain ⟨k, hk, rfl, rfl⟩ := hrel
    by_cases hlt : k < n
    · obtain ⟨b, off, rfl, hc, hd⟩ := HS.out.two k hlt
      rw [mrk2_gx l n (k * 2) (by rw [HL.out]; omega) (by omega), show (1 : Int) + ((k * 2 : Nat) : Int) = 1 + 2 * (k : Int) by omega] at hc
      rw [mrk2_gx l n (k * 2 + 1) (by rw [HL.out]; omega) (by omega), show (1 : Int) + ((k * 2 + 1 : Nat) : Int) = 1 + 2 * (k : Int) + 1 by omega] at hd
      go_wp2
      go_round
      case rel => exact ⟨k + 1, by omega, by go_num, by go_num⟩
      case measure => simp [intOf]; omega
    · obtain rfl : k = n := by omega
      go_wp2
      go_ret
      exact ⟨rfl, rfl⟩
end Go.Proofs.Ytnmlkigpiaekjaa
namespace Go.Proofs.Ytnmlkigpiaekjaa
open Go.RowKit
set_option maxHeartbeats 4000000
set_option linter.unusedVariables false
set_option linter.unusedSimpArgs false
/-- what the energies along a run leave -/
def GivesI (w : World) (n : Nat) (l : List Int) (c : Int) (e : Ending) (w' : World) : Prop :=
  ∃ v, e = .returned (.tuple #[v, .int .i64 c]) ∧ OwnI w' w.heap.size v n l ∧ Later w w'
theorem sgs_kept {w w' : World} {a : Option Addr} {n : Nat} {L : List Sg} {row : Option Nat} (h : Sgs w a n L) (hg : w.grownBy w' row) (hne : ∀ x, a = some x → row ≠ some x.block) : Sgs w' a n L := by
  obtain ⟨h1, h2, h3, h4⟩ := h
  refine ⟨h1, h2, fun k hk => ?_, h4⟩
  obtain ⟨b, off, rfl, hc⟩ := h3 k hk
  exact ⟨b, off, rfl, fun j hj => hg.cell (hc j hj) (fun e => hne _ rfl e.symm)⟩
theorem later_kept {w a b : World} {r : Option Nat} (h : Later w a) (hg : a.grownBy b r) (hr : ∀ k, r = some k → w.heap.size ≤ k) : Later w b := Below.grown h hg h.size hr
theorem ea_bad1 {L : List Sg} {f c a b : Int} (h : enB a b = false) : eaE L f c a b = 1 ∧ eaN L f c a b = 0 ∧ eaV L f c a b = [] := by
  have e : eaE L f c a b = 1 := by unfold eaE; rw [h]; rfl
  exact ⟨e, by unfold eaN; rw [e]; rfl, by unfold eaV; rw [e]; rfl⟩
theorem ea_bad2 {L : List Sg} {f c a b : Int} (h : enB a b = true) (h2 : sgE L f c ≠ 0) : eaE L f c a b = sgE L f c ∧ eaN L f c a b = 0 ∧ eaV L f c a b = [] := by
  have e : eaE L f c a b = sgE L f c := by unfold eaE; rw [h, if_pos rfl, if_neg h2]
  exact ⟨e, by unfold eaN; rw [e, if_neg h2], by unfold eaV; rw [e, if_neg h2]⟩
theorem ea_at {L : List Sg} {f c : Nat} {a b : Int} (h : enB a b = true) (h2 : sgE L (f : Int) (c : Int) = 0) : eaE L f c a b = alE (runS L f c) a b c := by
  unfold eaE; rw [h, if_pos rfl, if_pos h2]; simp
theorem ea_stop {L : List Sg} {f c : Nat} {a b : Int} (h : enB a b = true) (h2 : sgE L (f : Int) (c : Int) = 0) (h3 : alE (runS L f c) a b c ≠ 0) : eaE L f c a b = alE (runS L f c) a b c ∧ eaN L f c a b = 0 ∧ eaV L f c a b = [] := by
  have e := ea_at h h2
  exact ⟨e, by unfold eaN; rw [e, if_neg h3], by unfold eaV; rw [e, if_neg h3]⟩
theorem ea_fin {L : List Sg} {f c : Nat} {a b : Int} (h : enB a b = true) (h2 : sgE L (f : Int) (c : Int) = 0) (h3 : alE (runS L f c) a b c = 0) : eaE L f c a b = 0 ∧ eaN L f c a b = c ∧ eaV L f c a b = flF (runS L f c) a b c := by
  have e := ea_at h h2
  rw [h3] at e
  exact ⟨e, by unfold eaN; rw [e]; rfl, by unfold eaV; rw [e]; rfl⟩
theorem i_energyBehind_ok (x y : Int) (w : World) (h : x ≤ y) (hc : codE x y = 0) :
    Calls Try.prog 45 #[.agg #[.int .i64 x, .int .i64 y]] w fun e w' => e = .returned (.tuple #[.agg #[.int .i64 x, .int .i64 y], .int .i64 0]) ∧ Later w w' := by
  have := i_energyBehind x y w h; rw [hc] at this; exact this
theorem i_energyBehind_bad (x y c : Int) (w : World) (h : x ≤ y) (hc : codE x y = c) (h0 : c ≠ 0) :
    Calls Try.prog 45 #[.agg #[.int .i64 x, .int .i64 y]] w fun e w' => e = .returned (.tuple #[.agg #[.int .i64 0, .int .i64 0], .int .i64 c]) ∧ Later w w' := by
  have := i_energyBehind x y w h
  rw [hc, show okV c x = 0 by unfold okV; rw [if_neg h0], show okV c y = 0 by unfold okV; rw [if_neg h0]] at this; exact this
theorem own_ne {v : Value} {w : World} {base g : Nat} {n : Nat} {l : List Int} (h : OwnI w base v n l) (hg : g < base) : v.ownBlock ≠ some g := fun e => by have := (h.lt g e).1; omega
theorem i_EnergyAlong (s : Option Addr) (n cap : Nat) (L : List Sg) (f c a b : Int) (w : World) (hs : Sgs w s n L) :
    Calls Try.prog 11 #[.agg #[.slice s n cap], .int .i64 f, .int .i64 c, .agg #[.int .i64 a, .int .i64 b]] w (GivesI w (eaN L f c a b) (eaV L f c a b) (eaE L f c a b)) := by
  have HS := Lib.hid hs
  have HL := Lib.hid hs.1
  clear hs
  cases he : enB a b
  · have T := Lib.hid (ea_bad1 (L := L) (f := f) (c := c) he)
    go_enter Try.func11, Try.ntmps11
    go_wp2_with (go_at_call 42; refine (i_IsEnergy _ _ _).mono ?_; rintro e w1 ⟨rfl, hb⟩; obtain ⟨H, hcc, hff, hzz⟩ := later_facts hb; clear hb; (try simp at hzz); (try simp only [World.heap_drewN, World.cell?_drewN, World.frozen?_drewN] at hcc hff); have hz0 : w.heap.size < w1.heap.size := (by omega); (try (have hz1 : w.heap.size + 1 < w1.heap.size := (by omega))); (try (have hz2 : w.heap.size + 1 + 1 < w1.heap.size := (by omega))); (try (have hz3 : w.heap.size + 1 + 1 + 1 < w1.heap.size := (by omega))); (try (have hz4 : w.heap.size + 1 + 1 + 1 + 1 < w1.heap.size := (by omega))))
    go_ret2
    exact ⟨.slice none 0 0, by rw [T.out.1]; rfl, by rw [T.out.2.1, T.out.2.2]; exact ownW_none _ _ _ _, (by repeat (first | (with_reducible exact Later.refl _) | (with_reducible exact Hid.out (by assumption)) | (with_reducible refine Later.alloc ?_ _) | (with_reducible refine Later.setCell ?_ (by simp; omega) _) | (with_reducible refine Later.setCell ?_ (by simp) _) | (with_reducible refine Later.drewN ?_ _) | (with_reducible refine Later.drew ?_) | (with_reducible refine Later.trans ?_ (Hid.out (by assumption)))))⟩
  · by_cases hz : sgE L f c = 0
    · obtain ⟨hv, f', c', rfl, rfl, hf, hc⟩ := sgE_ok hz
      obtain ⟨R, hR⟩ : ∃ R, R = runS L f' c' := ⟨_, rfl⟩
      have hRl : R.length = c' := by rw [hR, runS_len]
      have hok : okB R R.length = true := by rw [hR]; exact runS_okB L f' c' ((layB_iff L).1 hv).2.2.1 (by omega)
      have HSV : Hid (sgV L (f' : Int) (c' : Int) = R) := Lib.hid (by unfold sgV; rw [if_pos hz, hR]; simp)
      have HE := Lib.hid hz
      have HST : Hid (∀ k, k < c' → alE R a b k = 0 → cdK R a b k ≠ 0 → eaE L f' c' a b = cdK R a b k ∧ eaN L f' c' a b = 0 ∧ eaV L f' c' a b = []) := Lib.hid (fun k hk h0 h1 => by
        have e : alE R a b c' = cdK R a b k := fstB_stop _ _ _ h0 hk h1
        rw [hR] at e h1
        have := ea_stop he hz (by rw [e]; exact h1)
        rw [e] at this; rw [hR]; exact this)
      have HFI : Hid (alE R a b c' = 0 → eaE L f' c' a b = 0 ∧ eaN L f' c' a b = c' ∧ eaV L f' c' a b = flF R a b c') := Lib.hid (fun h0 => by rw [hR] at h0 ⊢; exact ea_fin he hz h0)
      have hab := (enB_iff a b).1 he
      have HRL := Lib.hid hRl; have HOK := Lib.hid hok; have HAB := Lib.hid hab
      clear hR hz hok hRl hab hv hf
      go_enter Try.func11, Try.ntmps11
      go_upto_region 1 with (fail)
      refine into (Held [(w.heap.size + 1, 0, .int .i64 a), (w.heap.size + 1, 1, .int .i64 b), (w.heap.size, 0, .slice s n cap)] w) (by first | exact (held_box (held_box (held_start w) w.heap.size [.slice s n cap] _ rfl) (w.heap.size + 1) [.int .i64 a, .int .i64 b] _ (by simp))) ?_
      intro W hW
      obtain ⟨p0, p1, p2, _⟩ := Held.s3 hW
      have HW := Lib.hid (Held.is hW)
      have hz0 := sg_cell_lt p2
      have hz1 := sg_cell_lt p0
      clear hW
      go_wp2_with (go_at_call 42; refine (i_IsEnergy _ _ _).mono ?_; rintro e w1 ⟨rfl, hb⟩; obtain ⟨H, hcc, hff, hzz⟩ := later_facts hb; clear hb; (try simp at hzz); (try simp only [World.heap_drewN, World.cell?_drewN, World.frozen?_drewN] at hcc hff))
      refine (i_segmentsAlong s n cap L f' c' _ (HS.out.later (by repeat (first | (with_reducible exact Later.refl _) | (with_reducible exact Hid.out (by assumption)) | (with_reducible refine Later.alloc ?_ _) | (with_reducible refine Later.setCell ?_ (by simp; omega) _) | (with_reducible refine Later.setCell ?_ (by simp) _) | (with_reducible refine Later.drewN ?_ _) | (with_reducible refine Later.drew ?_) | (with_reducible refine Later.trans ?_ (Hid.out (by assumption))))))).mono ?_
      rw [HE.out, HSV.out]
      rintro e w2 ⟨v, rfl, ho, hb⟩
      obtain ⟨ra, rc, rfl, hrc, hrs, hrb⟩ := ho.sgs
      have hrb2 : ∀ x, ra = some x → x.block < w2.heap.size := fun x e => by subst e; exact (ho.lt x.block rfl).2
      rw [HRL.out] at hrs
      generalize hq : R.length = q
      obtain rfl : q = c' := by rw [← hq]; exact HRL.out
      clear hq
      have RS2 := Lib.hid hrs; have RB := Lib.hid hrb2
      have hq0 : w.heap.size + 1 < w2.heap.size := by have := hb.size; omega
      have hcd : ∀ o, w2.cell? ⟨w.heap.size + 1, o, none⟩ = W.cell? ⟨w.heap.size + 1, o, none⟩ := fun o => (hb.cell (p := ⟨w.heap.size + 1, o, none⟩) (by show w.heap.size + 1 < w1.heap.size; omega)).trans (hcc _ _ hz1)
      have H2 := Lib.hid hb
      clear hb ho hrs hrb hrb2 hrc
      go_wp2_with fail
      refine (i_coasting a b _).mono ?_
      rintro e w3 ⟨g, rfl, hg, hF, hb⟩
      have H3 : Hid (Later w w3) := Lib.hid (Later.trans (by repeat (first | (with_reducible exact Later.refl _) | (with_reducible exact Hid.out (by assumption)) | (with_reducible refine Later.alloc ?_ _) | (with_reducible refine Later.setCell ?_ (by simp; omega) _) | (with_reducible refine Later.setCell ?_ (by simp) _) | (with_reducible refine Later.drewN ?_ _) | (with_reducible refine Later.drew ?_) | (with_reducible refine Later.trans ?_ (Hid.out (by assumption))))) hb)
      have F3 := Lib.hid hF
      have RS3 := Lib.hid (RS2.out.later hb)
      have NG : Hid (∀ x, ra = some x → (some g : Option Nat) ≠ some x.block) := Lib.hid (fun x e h => by have := RB.out x e; have := Option.some.inj h; omega)
      have hgw : w.heap.size ≤ g := by omega
      have HG2 := Lib.hid hg
      clear hb hF hg hcd hcc hff hzz p0 p1 p2 hz0 hz1 hq0
      unfold sumF
      go_wp2_with fail
      go_loopw [13, 35] (fun v i wr => ∃ k : Nat, k ≤ q ∧ i = .int .i64 k ∧ OwnI wr (g + 1) v k (flF R a b k) ∧ alE R a b k = 0 ∧ Fr g [.int .i64 (a + clL R k), .int .i64 (b + clH R k)] wr ∧ Sgs wr ra q R ∧ Later w wr) (fun _ i _ => q - (intOf i).toNat)
      case atStart => exact ⟨0, by omega, rfl, ownW_none _ _ _ _, rfl, by rw [clL_0, clH_0, Int.add_zero, Int.add_zero]; exact F3.out, RS3.out, H3.out⟩
      case round =>
        clear RS2 RS3 F3 H3
        obtain ⟨k, hk, rfl, ho, hal, hF, hrs, hlw⟩ := hrel
        have HO := Lib.hid ho; have HA := Lib.hid hal; have HF := Lib.hid hF; have HRS := Lib.hid hrs; have HW2 := Lib.hid hlw
        have hlt0 := hF.lt
        clear ho hal hF hrs hlw
        by_cases hlt : k < q
        · have hseg : sgB (sx R k) = true := okB_at R R.length k (Nat.le_refl _) (by rw [HRL.out]; exact hlt) HOK.out
          obtain ⟨d1, d2, d3⟩ := cl_bd R HOK.out k (by rw [HRL.out]; exact hk)
          obtain ⟨d4, d5, d6⟩ := cl_bd R HOK.out (k + 1) (by rw [HRL.out]; exact hlt)
          obtain ⟨x, hx⟩ : ∃ x, x = a + clL R (k + 1) := ⟨_, rfl⟩
          obtain ⟨y, hy⟩ : ∃ y, y = b + clH R (k + 1) := ⟨_, rfl⟩
          have q1 : a + clL R k + chL (sx R k) = x := by rw [hx, clL_succ R k (by rw [HRL.out]; exact hlt)]; omega
          have q2 : b + clH R k + chH (sx R k) = y := by rw [hy, clH_succ R k (by rw [HRL.out]; exact hlt)]; omega
          obtain ⟨ab1, ab2, ab3⟩ := HAB.out
          have hxy : x ≤ y := by omega
          have hx1 : InR x := ⟨by omega, by omega⟩
          have hy1 : InR y := ⟨by omega, by omega⟩
          have HX := Lib.hid hx; have HY := Lib.hid hy
          have HC : Hid (cdK R a b k = codE x y) := Lib.hid (by unfold cdK; rw [hx, hy])
          have b1 : -1000000000000 ≤ a + clL R k := by omega
          have b2 : a + clL R k ≤ 1000000000000 := by omega
          have b3 : -1000000000000 ≤ b + clH R k := by omega
          have b4 : b + clH R k ≤ 1000000000000 := by omega
          clear d1 d2 d3 d4 d5 d6 ab1 ab2 ab3 hx hy
          obtain ⟨bb, off, rfl, hb1, hc7⟩ := HRS.out.at k hlt
          obtain ⟨c0, c1, c2, c3, c4, c5, c6⟩ := hc7
          go_wp2_with fail
          refine (i_coasting1 (sx R k) g (a + clL R k) (b + clH R k) _ hseg (fr_later HF.out (by repeat (first | (with_reducible exact Later.refl _) | (with_reducible exact Hid.out (by assumption)) | (with_reducible refine Later.alloc ?_ _) | (with_reducible refine Later.setCell ?_ (by simp; omega) _) | (with_reducible refine Later.setCell ?_ (by simp) _) | (with_reducible refine Later.drewN ?_ _) | (with_reducible refine Later.drew ?_) | (with_reducible refine Later.trans ?_ (Hid.out (by assumption)))))) b1 b2 b3 b4).mono ?_
          rw [q1, q2]
          rintro e w5 ⟨rfl, hF5, hg5⟩
          have F5 := Lib.hid hF5
          have O5 := Lib.hid ((HO.out.later (show Later wr _ from (by repeat (first | (with_reducible exact Later.refl _) | (with_reducible exact Hid.out (by assumption)) | (with_reducible refine Later.alloc ?_ _) | (with_reducible refine Later.setCell ?_ (by simp; omega) _) | (with_reducible refine Later.setCell ?_ (by simp) _) | (with_reducible refine Later.drewN ?_ _) | (with_reducible refine Later.drew ?_) | (with_reducible refine Later.trans ?_ (Hid.out (by assumption))))))).kept hg5 (fun j hj e => own_ne HO.out (Nat.lt_succ_self _) (by rw [hj, e])))
          have S5 := Lib.hid (sgs_kept (HRS.out.later (show Later wr _ from (by repeat (first | (with_reducible exact Later.refl _) | (with_reducible exact Hid.out (by assumption)) | (with_reducible refine Later.alloc ?_ _) | (with_reducible refine Later.setCell ?_ (by simp; omega) _) | (with_reducible refine Later.setCell ?_ (by simp) _) | (with_reducible refine Later.drewN ?_ _) | (with_reducible refine Later.drew ?_) | (with_reducible refine Later.trans ?_ (Hid.out (by assumption))))))) hg5 NG.out)
          have W5 : Hid (Later w w5) := Lib.hid (later_kept (show Later w _ from (by repeat (first | (with_reducible exact Later.refl _) | (with_reducible exact Hid.out (by assumption)) | (with_reducible refine Later.alloc ?_ _) | (with_reducible refine Later.setCell ?_ (by simp; omega) _) | (with_reducible refine Later.setCell ?_ (by simp) _) | (with_reducible refine Later.drewN ?_ _) | (with_reducible refine Later.drew ?_) | (with_reducible refine Later.trans ?_ (Hid.out (by assumption)))))) hg5 (fun j e => by cases e; exact hgw))
          have hg5s := hF5.lt
          clear hF5 hg5 c0 c1 c2 c3 c4 c5 c6 q1 q2 HO HF HRS
          by_cases hcd : codE x y = 0
          · go_wp2_with fail
            refine (i_energyBehind_ok x y _ hxy hcd).mono ?_
            rintro e w6 ⟨rfl, hb6⟩
            have H6 := Lib.hid hb6
            have hz6 := hb6.size
            clear hb6
            go_wp2_with (at_builtin; go_must (refine appI rfl _ _ rfl (g + 1) _ _ _ k (flF R a b k) x y (O5.out.later (by repeat (first | (with_reducible exact Later.refl _) | (with_reducible exact Hid.out (by assumption)) | (with_reducible refine Later.alloc ?_ _) | (with_reducible refine Later.setCell ?_ (by simp; omega) _) | (with_reducible refine Later.setCell ?_ (by simp) _) | (with_reducible refine Later.drewN ?_ _) | (with_reducible refine Later.drew ?_) | (with_reducible refine Later.trans ?_ (Hid.out (by assumption)))))) rfl (by first | rfl | (rw [World.size_alloc]; rfl)) hx1 hy1 (by omega) (by simp; omega) ?_; intro v' w7 ho hg))
            have O7 := Lib.hid ho
            have F7 := Lib.hid (fr_kept (fr_later F5.out (show Later w5 _ from (by repeat (first | (with_reducible exact Later.refl _) | (with_reducible exact Hid.out (by assumption)) | (with_reducible refine Later.alloc ?_ _) | (with_reducible refine Later.setCell ?_ (by simp; omega) _) | (with_reducible refine Later.setCell ?_ (by simp) _) | (with_reducible refine Later.drewN ?_ _) | (with_reducible refine Later.drew ?_) | (with_reducible refine Later.trans ?_ (Hid.out (by assumption))))))) hg (own_ne O5.out (Nat.lt_succ_self g)))
            have S7 := Lib.hid (sgs_kept (S5.out.later (show Later w5 _ from (by repeat (first | (with_reducible exact Later.refl _) | (with_reducible exact Hid.out (by assumption)) | (with_reducible refine Later.alloc ?_ _) | (with_reducible refine Later.setCell ?_ (by simp; omega) _) | (with_reducible refine Later.setCell ?_ (by simp) _) | (with_reducible refine Later.drewN ?_ _) | (with_reducible refine Later.drew ?_) | (with_reducible refine Later.trans ?_ (Hid.out (by assumption))))))) hg (fun z e h => by have h1 := (O5.out.lt z.block h).1; have h2 := RB.out z e; have h3 := HG2.out; omega))
            have W7 : Hid (Later w w7) := Lib.hid (later_kept (show Later w _ from (by repeat (first | (with_reducible exact Later.refl _) | (with_reducible exact Hid.out (by assumption)) | (with_reducible refine Later.alloc ?_ _) | (with_reducible refine Later.setCell ?_ (by simp; omega) _) | (with_reducible refine Later.setCell ?_ (by simp) _) | (with_reducible refine Later.drewN ?_ _) | (with_reducible refine Later.drew ?_) | (with_reducible refine Later.trans ?_ (Hid.out (by assumption)))))) hg (fun j e => by have := (O5.out.lt j e).1; omega))
            have A7 : Hid (alE R a b (k + 1) = 0) := Lib.hid ((fstB_succ _ _ HA.out).trans (HC.out.trans hcd))
            clear ho hg
            go_roundw
            case rel => exact ⟨k + 1, by omega, by go_num, by rw [flF_succ, ← HX.out, ← HY.out]; exact O7.out, A7.out, by rw [← HX.out, ← HY.out]; exact F7.out, S7.out, W7.out⟩
            case measure => simp [intOf]; omega
          · have T := Lib.hid (HST.out k hlt HA.out (by rw [HC.out]; exact hcd))
            have HCB : (codE x y != 0) = true := by simpa using hcd
            go_wp2_with fail
            refine (i_energyBehind_bad x y _ _ hxy rfl hcd).mono ?_
            rintro e w6 ⟨rfl, hb6⟩
            have H6 := Lib.hid hb6
            clear hb6 hcd
            go_wp2_with fail
            go_ret2
            exact ⟨.slice none 0 0, by rw [T.out.1, HC.out]; rfl, by rw [T.out.2.1, T.out.2.2]; exact ownW_none _ _ _ _, (by repeat (first | (with_reducible exact Later.refl _) | (with_reducible exact Hid.out (by assumption)) | (with_reducible refine Later.alloc ?_ _) | (with_reducible refine Later.setCell ?_ (by simp; omega) _) | (with_reducible refine Later.setCell ?_ (by simp) _) | (with_reducible refine Later.drewN ?_ _) | (with_reducible refine Later.drew ?_) | (with_reducible refine Later.trans ?_ (Hid.out (by assumption)))))⟩
        · obtain rfl : k = q := by omega
          have T := Lib.hid (HFI.out HA.out)
          go_wp2_with fail
          go_ret2
          exact ⟨_, by rw [T.out.1]; rfl, by rw [T.out.2.1, T.out.2.2]; exact HO.out.mono (by omega), HW2.out⟩
    · have T := Lib.hid (ea_bad2 he hz)
      have HZ : (sgE L f c != 0) = true := by simpa using hz
      clear hz
      go_enter Try.func11, Try.ntmps11
      go_upto_region 1 with (fail)
      refine into (Held [(w.heap.size + 1, 0, .int .i64 a), (w.heap.size + 1, 1, .int .i64 b), (w.heap.size, 0, .slice s n cap)] w) (by first | exact (held_box (held_box (held_start w) w.heap.size [.slice s n cap] _ rfl) (w.heap.size + 1) [.int .i64 a, .int .i64 b] _ (by simp))) ?_
      intro W hW
      obtain ⟨p0, p1, p2, _⟩ := Held.s3 hW
      have HW := Lib.hid (Held.is hW)
      have hz0 := sg_cell_lt p2
      clear hW
      go_wp2_with (go_at_call 42; refine (i_IsEnergy _ _ _).mono ?_; rintro e w1 ⟨rfl, hb⟩; obtain ⟨H, hcc, hff, hzz⟩ := later_facts hb; clear hb; (try simp at hzz); (try simp only [World.heap_drewN, World.cell?_drewN, World.frozen?_drewN] at hcc hff))
      refine (i_segmentsAlong s n cap L f c _ (HS.out.later (by repeat (first | (with_reducible exact Later.refl _) | (with_reducible exact Hid.out (by assumption)) | (with_reducible refine Later.alloc ?_ _) | (with_reducible refine Later.setCell ?_ (by simp; omega) _) | (with_reducible refine Later.setCell ?_ (by simp) _) | (with_reducible refine Later.drewN ?_ _) | (with_reducible refine Later.drew ?_) | (with_reducible refine Later.trans ?_ (Hid.out (by assumption))))))).mono ?_
      rintro e w2 ⟨v, rfl, ho, hb⟩
      have H2 := Lib.hid hb
      clear hb ho
      go_wp2_with fail
      go_ret2
      exact ⟨.slice none 0 0, by rw [T.out.1]; rfl, by rw [T.out.2.1, T.out.2.2]; exact ownW_none _ _ _ _, (by repeat (first | (with_reducible exact Later.refl _) | (with_reducible exact Hid.out (by assumption)) | (with_reducible refine Later.alloc ?_ _) | (with_reducible refine Later.setCell ?_ (by simp; omega) _) | (with_reducible refine Later.setCell ?_ (by simp) _) | (with_reducible refine Later.drewN ?_ _) | (with_reducible refine Later.drew ?_) | (with_reducible refine Later.trans ?_ (Hid.out (by assumption)))))⟩
end Go.Proofs.Ytnmlkigpiaekjaa
namespace Go.Proofs.Ytnmlkigpiaekjaa
open Go.RowKit
set_option maxHeartbeats 4000000
set_option linter.unusedVariables false
set_option linter.unusedSimpArgs false
theorem s_EnergyAfter (x : Sg) (a b : Int) (w : World) :
    Calls Try.prog 47 #[.agg #[.int .i64 x.k, .int .i64 x.l, .int .i64 x.r, .int .i64 x.a, .int .i64 x.b, .int .i64 x.c, .int .i64 x.d], .agg #[.int .i64 a, .int .i64 b]] w fun e w' => e = .returned (.tuple #[.agg #[.int .i64 (afL x a b), .int .i64 (afH x a b)], .int .i64 (afE x a b)]) ∧ Later w w' := by
  cases h : sgB x
  · have e1 : afE x a b = 1 := by unfold afE; rw [h]; rfl
    unfold afL afH
    rw [e1]
    go_enter Try.func47, Try.ntmps47
    go_wp2_with (first | (go_at_call 72; refine (s_IsSegment x _).mono ?_; rintro e w1 ⟨rfl, hb⟩; obtain ⟨H, hcc, hff, hzz⟩ := later_facts hb; clear hb; (try simp at hzz); (try simp only [World.heap_drewN, World.cell?_drewN, World.frozen?_drewN] at hcc hff); have hz0 : w.heap.size < w1.heap.size := (by omega); (try (have hz1 : w.heap.size + 1 < w1.heap.size := (by omega))); (try (have hz2 : w.heap.size + 1 + 1 < w1.heap.size := (by omega))); (try (have hz3 : w.heap.size + 1 + 1 + 1 < w1.heap.size := (by omega))); (try (have hz4 : w.heap.size + 1 + 1 + 1 + 1 < w1.heap.size := (by omega)))))
    refine bodyPost_ret (v := .tuple #[.agg #[.int .i64 (okV 1 (a + chL x)), .int .i64 (okV 1 (b + chH x))], .int .i64 1]) (by simp [results, Try.results47, go_sem, okV, *]) rfl ⟨rfl, (by repeat (first | (with_reducible exact Later.refl _) | (with_reducible exact Hid.out (by assumption)) | (with_reducible refine Later.alloc ?_ _) | (with_reducible refine Later.setCell ?_ (by simp; omega) _) | (with_reducible refine Later.setCell ?_ (by simp) _) | (with_reducible refine Later.drewN ?_ _) | (with_reducible refine Later.drew ?_) | (with_reducible refine Later.trans ?_ (Hid.out (by assumption)))))⟩
  · cases h2 : enB a b
    · have e1 : afE x a b = 1 := by unfold afE; rw [h, h2]; rfl
      unfold afL afH
      rw [e1]
      go_enter Try.func47, Try.ntmps47
      go_upto_region 1 with (fail)
      refine into (fun W => Held [(w.heap.size + 1, 0, .int .i64 a), (w.heap.size + 1, 1, .int .i64 b), (w.heap.size, 0, .int .i64 x.k), (w.heap.size, 1, .int .i64 x.l), (w.heap.size, 2, .int .i64 x.r), (w.heap.size, 3, .int .i64 x.a), (w.heap.size, 4, .int .i64 x.b), (w.heap.size, 5, .int .i64 x.c), (w.heap.size, 6, .int .i64 x.d)] w W ∧ Fr (w.heap.size + 1 + 1) [.int .i64 0, .int .i64 0] W) ⟨?_, ?_⟩ ?_
      · exact (held_box (held_box (held_start w) w.heap.size [.int .i64 x.k, .int .i64 x.l, .int .i64 x.r, .int .i64 x.a, .int .i64 x.b, .int .i64 x.c, .int .i64 x.d] _ rfl) (w.heap.size + 1) [.int .i64 a, .int .i64 b] _ (by simp)).alloc _
      · have F := fr_alloc (X := (w.alloc (.cells [.int .i64 x.k, .int .i64 x.l, .int .i64 x.r, .int .i64 x.a, .int .i64 x.b, .int .i64 x.c, .int .i64 x.d].toArray 77)).alloc (.cells [Value.int .i64 a, .int .i64 b].toArray 28)) (l := [.int .i64 0, .int .i64 0]) (T := 28) (Later.refl _)
        simp only [World.size_alloc] at F
        exact F
      rintro W ⟨hW, hF⟩
      obtain ⟨p7, p8, p0, p1, p2, p3, p4, p5, p6, _⟩ := Held.s9 hW
      obtain ⟨r0, r1, r2, r3⟩ := Fr.o2 hF
      have zz := hW.1
      simp at zz
      obtain ⟨⟨z1, _⟩, _, ⟨z0, _⟩, _⟩ := zz
      have z2 := hF.lt
      have HW := Lib.hid (Held.is hW)
      clear hW hF
      go_wp2_with (first | (go_at_call 72; refine (s_IsSegment x _).mono ?_; rintro e w1 ⟨rfl, hb⟩; obtain ⟨H, hcc, hff, hzz⟩ := later_facts hb; clear hb; (try simp at hzz); (try simp only [World.heap_drewN, World.cell?_drewN, World.frozen?_drewN] at hcc hff); have hz0 : w.heap.size < w1.heap.size := (by omega); (try (have hz1 : w.heap.size + 1 < w1.heap.size := (by omega))); (try (have hz2 : w.heap.size + 1 + 1 < w1.heap.size := (by omega))); (try (have hz3 : w.heap.size + 1 + 1 + 1 < w1.heap.size := (by omega))); (try (have hz4 : w.heap.size + 1 + 1 + 1 + 1 < w1.heap.size := (by omega)))) | (go_at_call 46; refine (s_IsEnergy _ _ _).mono ?_; rintro e w1 ⟨rfl, hb⟩; obtain ⟨H, hcc, hff, hzz⟩ := later_facts hb; clear hb; (try simp at hzz); (try simp only [World.heap_drewN, World.cell?_drewN, World.frozen?_drewN] at hcc hff); have hz0 : w.heap.size < w1.heap.size := (by omega); (try (have hz1 : w.heap.size + 1 < w1.heap.size := (by omega))); (try (have hz2 : w.heap.size + 1 + 1 < w1.heap.size := (by omega))); (try (have hz3 : w.heap.size + 1 + 1 + 1 < w1.heap.size := (by omega))); (try (have hz4 : w.heap.size + 1 + 1 + 1 + 1 < w1.heap.size := (by omega)))))
      refine bodyPost_ret (v := .tuple #[.agg #[.int .i64 (okV 1 (a + chL x)), .int .i64 (okV 1 (b + chH x))], .int .i64 1]) (by simp [results, Try.results47, go_sem, okV, *]) rfl ⟨rfl, (by repeat (first | (with_reducible exact Later.refl _) | (with_reducible exact Hid.out (by assumption)) | (with_reducible refine Later.alloc ?_ _) | (with_reducible refine Later.setCell ?_ (by simp; omega) _) | (with_reducible refine Later.setCell ?_ (by simp) _) | (with_reducible refine Later.drewN ?_ _) | (with_reducible refine Later.drew ?_) | (with_reducible refine Later.trans ?_ (Hid.out (by assumption)))))⟩
    · have e1 : afE x a b = codE (a + chL x) (b + chH x) := by unfold afE; rw [h, h2]; rfl
      unfold afL afH
      rw [e1]
      obtain ⟨c1, c2, c3⟩ := ch_bd x h
      obtain ⟨c4, c5, c6⟩ := (enB_iff a b).1 h2
      clear e1
      go_enter Try.func47, Try.ntmps47
      go_upto_region 1 with (fail)
      refine into (fun W => Held [(w.heap.size + 1, 0, .int .i64 a), (w.heap.size + 1, 1, .int .i64 b), (w.heap.size, 0, .int .i64 x.k), (w.heap.size, 1, .int .i64 x.l), (w.heap.size, 2, .int .i64 x.r), (w.heap.size, 3, .int .i64 x.a), (w.heap.size, 4, .int .i64 x.b), (w.heap.size, 5, .int .i64 x.c), (w.heap.size, 6, .int .i64 x.d)] w W ∧ Fr (w.heap.size + 1 + 1) [.int .i64 0, .int .i64 0] W) ⟨?_, ?_⟩ ?_
      · exact (held_box (held_box (held_start w) w.heap.size [.int .i64 x.k, .int .i64 x.l, .int .i64 x.r, .int .i64 x.a, .int .i64 x.b, .int .i64 x.c, .int .i64 x.d] _ rfl) (w.heap.size + 1) [.int .i64 a, .int .i64 b] _ (by simp)).alloc _
      · have F := fr_alloc (X := (w.alloc (.cells [.int .i64 x.k, .int .i64 x.l, .int .i64 x.r, .int .i64 x.a, .int .i64 x.b, .int .i64 x.c, .int .i64 x.d].toArray 77)).alloc (.cells [Value.int .i64 a, .int .i64 b].toArray 28)) (l := [.int .i64 0, .int .i64 0]) (T := 28) (Later.refl _)
        simp only [World.size_alloc] at F
        exact F
      rintro W ⟨hW, hF⟩
      obtain ⟨p7, p8, p0, p1, p2, p3, p4, p5, p6, _⟩ := Held.s9 hW
      obtain ⟨r0, r1, r2, r3⟩ := Fr.o2 hF
      have zz := hW.1
      simp at zz
      obtain ⟨⟨z1, _⟩, _, ⟨z0, _⟩, _⟩ := zz
      have z2 := hF.lt
      have HW := Lib.hid (Held.is hW)
      go_wp2_with (first | (go_at_call 72; refine (s_IsSegment x _).mono ?_; rintro e w1 ⟨rfl, hb⟩; obtain ⟨H, hcc, hff, hzz⟩ := later_facts hb; clear hb; (try simp at hzz); (try simp only [World.heap_drewN, World.cell?_drewN, World.frozen?_drewN] at hcc hff); have hz0 : w.heap.size < w1.heap.size := (by omega); (try (have hz1 : w.heap.size + 1 < w1.heap.size := (by omega))); (try (have hz2 : w.heap.size + 1 + 1 < w1.heap.size := (by omega))); (try (have hz3 : w.heap.size + 1 + 1 + 1 < w1.heap.size := (by omega))); (try (have hz4 : w.heap.size + 1 + 1 + 1 + 1 < w1.heap.size := (by omega)))) | (go_at_call 46; refine (s_IsEnergy _ _ _).mono ?_; rintro e w1 ⟨rfl, hb⟩; obtain ⟨H, hcc, hff, hzz⟩ := later_facts hb; clear hb; (try simp at hzz); (try simp only [World.heap_drewN, World.cell?_drewN, World.frozen?_drewN] at hcc hff); have hz0 : w.heap.size < w1.heap.size := (by omega); (try (have hz1 : w.heap.size + 1 < w1.heap.size := (by omega))); (try (have hz2 : w.heap.size + 1 + 1 < w1.heap.size := (by omega))); (try (have hz3 : w.heap.size + 1 + 1 + 1 < w1.heap.size := (by omega))); (try (have hz4 : w.heap.size + 1 + 1 + 1 + 1 < w1.heap.size := (by omega)))))
      refine into (fun W => Held [(w.heap.size + 1, 0, .int .i64 a), (w.heap.size + 1, 1, .int .i64 b), (w.heap.size, 0, .int .i64 x.k), (w.heap.size, 1, .int .i64 x.l), (w.heap.size, 2, .int .i64 x.r), (w.heap.size, 3, .int .i64 x.a), (w.heap.size, 4, .int .i64 x.b), (w.heap.size, 5, .int .i64 x.c), (w.heap.size, 6, .int .i64 x.d)] w W ∧ Fr (w.heap.size + 1 + 1) [.int .i64 0, .int .i64 0] W) ⟨Held.later hW (by repeat (first | (with_reducible exact Later.refl _) | (with_reducible exact Hid.out (by assumption)) | (with_reducible refine Later.alloc ?_ _) | (with_reducible refine Later.setCell ?_ (by simp; omega) _) | (with_reducible refine Later.setCell ?_ (by simp) _) | (with_reducible refine Later.drewN ?_ _) | (with_reducible refine Later.drew ?_) | (with_reducible refine Later.trans ?_ (Hid.out (by assumption))))), fr_later hF (by repeat (first | (with_reducible exact Later.refl _) | (with_reducible exact Hid.out (by assumption)) | (with_reducible refine Later.alloc ?_ _) | (with_reducible refine Later.setCell ?_ (by simp; omega) _) | (with_reducible refine Later.setCell ?_ (by simp) _) | (with_reducible refine Later.drewN ?_ _) | (with_reducible refine Later.drew ?_) | (with_reducible refine Later.trans ?_ (Hid.out (by assumption)))))⟩ ?_
      clear p0 p1 p2 p3 p4 p5 p6 p7 p8 r0 r1 r2 r3
      rintro W ⟨hW, F⟩
      go_region_held3 (fun w' => w'.cell? ⟨w.heap.size + 1, 0, none⟩ = some (.int .i64 a) ∧ w'.cell? ⟨w.heap.size + 1, 1, none⟩ = some (.int .i64 b) ∧ w'.cell? ⟨w.heap.size, 0, none⟩ = some (.int .i64 x.k) ∧ w'.cell? ⟨w.heap.size, 1, none⟩ = some (.int .i64 x.l) ∧ w'.cell? ⟨w.heap.size, 2, none⟩ = some (.int .i64 x.r) ∧ w'.cell? ⟨w.heap.size, 3, none⟩ = some (.int .i64 x.a) ∧ w'.cell? ⟨w.heap.size, 4, none⟩ = some (.int .i64 x.b) ∧ w'.cell? ⟨w.heap.size, 5, none⟩ = some (.int .i64 x.c) ∧ w'.cell? ⟨w.heap.size, 6, none⟩ = some (.int .i64 x.d) ∧ Held [(w.heap.size + 1, 0, .int .i64 a), (w.heap.size + 1, 1, .int .i64 b), (w.heap.size, 0, .int .i64 x.k), (w.heap.size, 1, .int .i64 x.l), (w.heap.size, 2, .int .i64 x.r), (w.heap.size, 3, .int .i64 x.a), (w.heap.size, 4, .int .i64 x.b), (w.heap.size, 5, .int .i64 x.c), (w.heap.size, 6, .int .i64 x.d)] w w') ((refine Held.s9 ?_; (repeat (refine Held.setCell ?_ _ _ (by simp <;> omega) (by simp <;> omega))); refine Held.later hW ?_; repeat (first | exact Later.refl _ | refine Later.drew ?_ | refine Later.drewN ?_ _ | refine Later.alloc ?_ _ | refine Later.trans ?_ (Hid.out (by assumption)))))
        (first | (go_at_call 58; refine (s_Change x _ h).mono ?_; rintro e w1 ⟨rfl, hb⟩; have H := Lib.hid hb; (first | (have F := fr_later F hb; obtain ⟨f1, f2, f3, f4⟩ := Fr.o2 F) | (have F := fr_later F (later_undrew hb); obtain ⟨f1, f2, f3, f4⟩ := Fr.o2 F) | (have F := fr_later F (later_undrewN hb); obtain ⟨f1, f2, f3, f4⟩ := Fr.o2 F)); clear hb) | (go_at_call 57; refine (s_l06Sum _ _ _ _ _ (by omega) (by omega) (by omega) (by omega) (by omega) (by omega) (by omega) (by omega)).mono ?_; rintro e w1 ⟨rfl, hb⟩; have H := Lib.hid hb; (first | (have F := fr_later F hb; obtain ⟨f1, f2, f3, f4⟩ := Fr.o2 F) | (have F := fr_later F (later_undrew hb); obtain ⟨f1, f2, f3, f4⟩ := Fr.o2 F) | (have F := fr_later F (later_undrewN hb); obtain ⟨f1, f2, f3, f4⟩ := Fr.o2 F)); clear hb) | (go_at_call 80; refine (s_Check _ _ _).mono ?_; rintro e w1 ⟨rfl, hb⟩; have H := Lib.hid hb; (first | (have F := fr_later F hb; obtain ⟨f1, f2, f3, f4⟩ := Fr.o2 F) | (have F := fr_later F (later_undrew hb); obtain ⟨f1, f2, f3, f4⟩ := Fr.o2 F) | (have F := fr_later F (later_undrewN hb); obtain ⟨f1, f2, f3, f4⟩ := Fr.o2 F)); clear hb))
      all_goals
        go_wp2_with fail
        refine bodyPost_ret (v := .tuple #[.agg #[.int .i64 (okV (codE (a + chL x) (b + chH x)) (a + chL x)), .int .i64 (okV (codE (a + chL x) (b + chH x)) (b + chH x))], .int .i64 (codE (a + chL x) (b + chH x))]) (by simp [results, Try.results47, go_sem, *]) rfl ⟨rfl, Later.setCell (Later.setCell (Later.trans (Held.is hW) (by (repeat (first | exact Later.refl _ | refine Later.drew ?_ | refine Later.drewN ?_ _ | refine Later.alloc ?_ _ | refine Later.trans ?_ (Hid.out (by assumption)))); done)) (by simp <;> omega) _) (by simp <;> omega) _⟩
end Go.Proofs.Ytnmlkigpiaekjaa
namespace Go.Proofs.Ytnmlkigpiaekjaa
open Go.RowKit
set_option maxHeartbeats 4000000
set_option linter.unusedVariables false
set_option linter.unusedSimpArgs false
theorem s_EnergyAfter_at (z : Sg) (a b x y : Int) (w : World) (h : sgB z = true) (h2 : enB a b = true) (hx : a + chL z = x) (hy : b + chH z = y) :
    Calls Try.prog 47 #[.agg #[.int .i64 z.k, .int .i64 z.l, .int .i64 z.r, .int .i64 z.a, .int .i64 z.b, .int .i64 z.c, .int .i64 z.d], .agg #[.int .i64 a, .int .i64 b]] w fun e w' => e = .returned (.tuple #[.agg #[.int .i64 (okV (codE x y) x), .int .i64 (okV (codE x y) y)], .int .i64 (codE x y)]) ∧ Later w w' := by
  have e1 : afE z a b = codE x y := by unfold afE; rw [h, h2, hx, hy]; rfl
  have := s_EnergyAfter z a b w
  unfold afL afH at this
  rw [e1, hx, hy] at this
  exact this
/-- an interval in a new box, and its code -/
def GotE (wr : World) (p q c : Int) (s12 s13 : Value) (w' : World) : Prop :=
  ∃ g : Nat, s12 = .pointer (some ⟨g, 0, none⟩) ∧ s13 = .int .i64 c ∧ w'.cell? ⟨g, 0, none⟩ = some (.int .i64 p) ∧ w'.cell? ⟨g, 1, none⟩ = some (.int .i64 q) ∧ Later wr w'
set_option maxRecDepth 100000 in
theorem s_EnergyAlong (s : Option Addr) (n cap : Nat) (L : List Sg) (f c a b : Int) (w : World) (hs : Sgs w s n L) :
    Calls Try.prog 12 #[.agg #[.slice s n cap], .int .i64 f, .int .i64 c, .agg #[.int .i64 a, .int .i64 b]] w (GivesI w (eaN L f c a b) (eaV L f c a b) (eaE L f c a b)) := by
  have HS := Lib.hid hs
  have HL := Lib.hid hs.1
  have hnm := hs.2.1
  clear hs
  cases hv : layB L
  · have T : Hid (eaE L f c a b = 1 ∧ eaN L f c a b = 0 ∧ eaV L f c a b = []) := Lib.hid (by
      have e0 : sgE L f c = 1 := by unfold sgE; rw [hv]; rfl
      cases he : enB a b
      · exact ea_bad1 he
      · have := ea_bad2 (a := a) (b := b) he (by rw [e0]; decide : sgE L f c ≠ 0)
        rw [e0] at this; exact this)
    go_enter Try.func12, Try.ntmps12
    go_wp2_with fail
    refine (s_IsLayout s n cap L _ (HS.out.later (by repeat (first | (with_reducible exact Later.refl _) | (with_reducible exact Hid.out (by assumption)) | (with_reducible refine Later.alloc ?_ _) | (with_reducible refine Later.setCell ?_ (by simp; omega) _) | (with_reducible refine Later.setCell ?_ (by simp) _) | (with_reducible refine Later.drewN ?_ _) | (with_reducible refine Later.drew ?_) | (with_reducible refine Later.trans ?_ (Hid.out (by assumption))))))).mono ?_
    rw [hv]
    rintro e w1 ⟨rfl, hb⟩
    have H1 := Lib.hid hb
    clear hb
    go_wp2_with fail
    go_ret2
    exact ⟨.slice none 0 0, by rw [T.out.1]; rfl, by rw [T.out.2.1, T.out.2.2]; exact ownW_none _ _ _ _, (by repeat (first | (with_reducible exact Later.refl _) | (with_reducible exact Hid.out (by assumption)) | (with_reducible refine Later.alloc ?_ _) | (with_reducible refine Later.setCell ?_ (by simp; omega) _) | (with_reducible refine Later.setCell ?_ (by simp) _) | (with_reducible refine Later.drewN ?_ _) | (with_reducible refine Later.drew ?_) | (with_reducible refine Later.trans ?_ (Hid.out (by assumption)))))⟩
  · cases he : enB a b
    · have T := Lib.hid (ea_bad1 (L := L) (f := f) (c := c) he)
      go_enter Try.func12, Try.ntmps12
      go_upto_region 1 with (fail)
      refine into (fun W => W.cell? ⟨w.heap.size, 0, none⟩ = some (.slice s n cap) ∧ Fr (w.heap.size + 1) [.int .i64 a, .int .i64 b] W ∧ Later w W) ⟨?_, ?_, (by repeat (first | (with_reducible exact Later.refl _) | (with_reducible exact Hid.out (by assumption)) | (with_reducible refine Later.alloc ?_ _) | (with_reducible refine Later.setCell ?_ (by simp; omega) _) | (with_reducible refine Later.setCell ?_ (by simp) _) | (with_reducible refine Later.drewN ?_ _) | (with_reducible refine Later.drew ?_) | (with_reducible refine Later.trans ?_ (Hid.out (by assumption)))))⟩ ?_
      · simp
      · have F2 := fr_alloc (X := w.alloc (.cells #[.slice s n cap] 26)) (l := [.int .i64 a, .int .i64 b]) (T := 28) (Later.refl _)
        rw [World.size_alloc] at F2
        exact F2
      rintro W ⟨hc0, F0, hl⟩
      have HW := Lib.hid hl
      have hz0 := sg_cell_lt hc0
      obtain ⟨f1, f2, f3, f4⟩ := Fr.o2 F0
      have hz1 := F0.lt
      clear hl
      go_wp2_with fail
      refine (s_IsLayout s n cap L _ (HS.out.later (by repeat (first | (with_reducible exact Later.refl _) | (with_reducible exact Hid.out (by assumption)) | (with_reducible refine Later.alloc ?_ _) | (with_reducible refine Later.setCell ?_ (by simp; omega) _) | (with_reducible refine Later.setCell ?_ (by simp) _) | (with_reducible refine Later.drewN ?_ _) | (with_reducible refine Later.drew ?_) | (with_reducible refine Later.trans ?_ (Hid.out (by assumption))))))).mono ?_
      rw [hv]
      rintro e w2 ⟨rfl, hb⟩
      have H2 : Hid (Later w w2) := Lib.hid (Later.trans (by repeat (first | (with_reducible exact Later.refl _) | (with_reducible exact Hid.out (by assumption)) | (with_reducible refine Later.alloc ?_ _) | (with_reducible refine Later.setCell ?_ (by simp; omega) _) | (with_reducible refine Later.setCell ?_ (by simp) _) | (with_reducible refine Later.drewN ?_ _) | (with_reducible refine Later.drew ?_) | (with_reducible refine Later.trans ?_ (Hid.out (by assumption))))) hb)
      have hc1 : w2.cell? ⟨w.heap.size, 0, none⟩ = some (.slice s n cap) := (hb.cell (p := ⟨w.heap.size, 0, none⟩) hz0).trans hc0
      have F1 := fr_later F0 hb
      obtain ⟨f1, f2, f3, f4⟩ := Fr.o2 F1
      have hz2 := sg_cell_lt hc1
      clear hb F0 hc0 hz0 hz1
      go_wp2_with fail
      refine (s_IsEnergy _ _ _).mono ?_
      rw [he]
      rintro e w3 ⟨rfl, hb⟩
      have H3 : Hid (Later w w3) := Lib.hid (Later.trans (by repeat (first | (with_reducible exact Later.refl _) | (with_reducible exact Hid.out (by assumption)) | (with_reducible refine Later.alloc ?_ _) | (with_reducible refine Later.setCell ?_ (by simp; omega) _) | (with_reducible refine Later.setCell ?_ (by simp) _) | (with_reducible refine Later.drewN ?_ _) | (with_reducible refine Later.drew ?_) | (with_reducible refine Later.trans ?_ (Hid.out (by assumption))))) hb)
      have hc3 : w3.cell? ⟨w.heap.size, 0, none⟩ = some (.slice s n cap) := (hb.cell (p := ⟨w.heap.size, 0, none⟩) hz2).trans hc1
      have F3 := Lib.hid (fr_later F1 hb)
      have hz3 := sg_cell_lt hc3
      clear hb F1 hc1 hz2 f1 f2 f3 f4
      go_wp2_with fail
      go_ret2
      exact ⟨.slice none 0 0, by rw [T.out.1]; rfl, by rw [T.out.2.1, T.out.2.2]; exact ownW_none _ _ _ _, (by repeat (first | (with_reducible exact Later.refl _) | (with_reducible exact Hid.out (by assumption)) | (with_reducible refine Later.alloc ?_ _) | (with_reducible refine Later.setCell ?_ (by simp; omega) _) | (with_reducible refine Later.setCell ?_ (by simp) _) | (with_reducible refine Later.drewN ?_ _) | (with_reducible refine Later.drew ?_) | (with_reducible refine Later.trans ?_ (Hid.out (by assumption)))))⟩
    · by_cases hz : sgE L f c = 0
      · obtain ⟨_, f', c', rfl, rfl, hf, hc⟩ := sgE_ok hz
        obtain ⟨R, hR⟩ : ∃ R, R = runS L f' c' := ⟨_, rfl⟩
        have hRl : R.length = c' := by rw [hR, runS_len]
        have hv' := (layB_iff L).1 hv
        have h24 : n ≤ 24 := by have := HL.out; omega
        have hn0 : 0 < n := by have := HL.out; omega
        have hfn : f' < n := by have := HL.out; omega
        have hok : okB R R.length = true := by rw [hR]; exact runS_okB L f' c' hv'.2.2.1 (by omega)
        have HAT : Hid (∀ j, j < c' → sx L ((f' + j) % n) = sx R j) := Lib.hid (fun j hj => by rw [hR, runS_at L f' c' j hj, HL.out])
        have HB : Hid (((decide (0 ≤ (f' : Int)) && decide ((f' : Int) ≤ (n : Int) - 1)) && (decide (0 ≤ (c' : Int)) && decide ((c' : Int) ≤ 24))) = true) := Lib.hid (by simp; omega)
        have HST : Hid (∀ k, k < c' → alE R a b k = 0 → cdK R a b k ≠ 0 → eaE L f' c' a b = cdK R a b k ∧ eaN L f' c' a b = 0 ∧ eaV L f' c' a b = []) := Lib.hid (fun k hk h0 h1 => by
          have e : alE R a b c' = cdK R a b k := fstB_stop _ _ _ h0 hk h1
          rw [hR] at e h1
          have := ea_stop he hz (by rw [e]; exact h1)
          rw [e] at this; rw [hR]; exact this)
        have HFI : Hid (alE R a b c' = 0 → eaE L f' c' a b = 0 ∧ eaN L f' c' a b = c' ∧ eaV L f' c' a b = flF R a b c') := Lib.hid (fun h0 => by rw [hR] at h0 ⊢; exact ea_fin he hz h0)
        have hab := (enB_iff a b).1 he
        have HRL := Lib.hid hRl; have HOK := Lib.hid hok; have HAB := Lib.hid hab; have HEN := Lib.hid he
        clear hR hz hok hRl hab hv' hf
        go_enter Try.func12, Try.ntmps12
        go_upto_region 1 with (fail)
        refine into (fun W => W.cell? ⟨w.heap.size, 0, none⟩ = some (.slice s n cap) ∧ Fr (w.heap.size + 1) [.int .i64 a, .int .i64 b] W ∧ Later w W) ⟨?_, ?_, (by repeat (first | (with_reducible exact Later.refl _) | (with_reducible exact Hid.out (by assumption)) | (with_reducible refine Later.alloc ?_ _) | (with_reducible refine Later.setCell ?_ (by simp; omega) _) | (with_reducible refine Later.setCell ?_ (by simp) _) | (with_reducible refine Later.drewN ?_ _) | (with_reducible refine Later.drew ?_) | (with_reducible refine Later.trans ?_ (Hid.out (by assumption)))))⟩ ?_
        · simp
        · have F2 := fr_alloc (X := w.alloc (.cells #[.slice s n cap] 26)) (l := [.int .i64 a, .int .i64 b]) (T := 28) (Later.refl _)
          rw [World.size_alloc] at F2
          exact F2
        rintro W ⟨hc0, F0, hl⟩
        have HW := Lib.hid hl
        have hz0 := sg_cell_lt hc0
        obtain ⟨f1, f2, f3, f4⟩ := Fr.o2 F0
        have hz1 := F0.lt
        clear hl
        go_wp2_with fail
        refine (s_IsLayout s n cap L _ (HS.out.later (by repeat (first | (with_reducible exact Later.refl _) | (with_reducible exact Hid.out (by assumption)) | (with_reducible refine Later.alloc ?_ _) | (with_reducible refine Later.setCell ?_ (by simp; omega) _) | (with_reducible refine Later.setCell ?_ (by simp) _) | (with_reducible refine Later.drewN ?_ _) | (with_reducible refine Later.drew ?_) | (with_reducible refine Later.trans ?_ (Hid.out (by assumption))))))).mono ?_
        rw [hv]
        rintro e w2 ⟨rfl, hb⟩
        have H2 : Hid (Later w w2) := Lib.hid (Later.trans (by repeat (first | (with_reducible exact Later.refl _) | (with_reducible exact Hid.out (by assumption)) | (with_reducible refine Later.alloc ?_ _) | (with_reducible refine Later.setCell ?_ (by simp; omega) _) | (with_reducible refine Later.setCell ?_ (by simp) _) | (with_reducible refine Later.drewN ?_ _) | (with_reducible refine Later.drew ?_) | (with_reducible refine Later.trans ?_ (Hid.out (by assumption))))) hb)
        have hc1 : w2.cell? ⟨w.heap.size, 0, none⟩ = some (.slice s n cap) := (hb.cell (p := ⟨w.heap.size, 0, none⟩) hz0).trans hc0
        have F1 := fr_later F0 hb
        obtain ⟨f1, f2, f3, f4⟩ := Fr.o2 F1
        have hz2 := sg_cell_lt hc1
        clear hb F0 hc0 hz0 hz1
        go_wp2_with fail
        refine (s_IsEnergy _ _ _).mono ?_
        rw [he]
        rintro e w3 ⟨rfl, hb⟩
        have H3 : Hid (Later w w3) := Lib.hid (Later.trans (by repeat (first | (with_reducible exact Later.refl _) | (with_reducible exact Hid.out (by assumption)) | (with_reducible refine Later.alloc ?_ _) | (with_reducible refine Later.setCell ?_ (by simp; omega) _) | (with_reducible refine Later.setCell ?_ (by simp) _) | (with_reducible refine Later.drewN ?_ _) | (with_reducible refine Later.drew ?_) | (with_reducible refine Later.trans ?_ (Hid.out (by assumption))))) hb)
        have hc3 : w3.cell? ⟨w.heap.size, 0, none⟩ = some (.slice s n cap) := (hb.cell (p := ⟨w.heap.size, 0, none⟩) hz2).trans hc1
        have F3 := Lib.hid (fr_later F1 hb)
        have hz3 := sg_cell_lt hc3
        clear hb F1 hc1 hz2 f1 f2 f3 f4
        go_wp2_with fail
        refine (s_Range s n cap f' c' true _ hnm HB.out).mono ?_
        rintro e w5 ⟨rfl, hb⟩
        have H5 : Hid (Later w w5) := Lib.hid (Later.trans (by repeat (first | (with_reducible exact Later.refl _) | (with_reducible exact Hid.out (by assumption)) | (with_reducible refine Later.alloc ?_ _) | (with_reducible refine Later.setCell ?_ (by simp; omega) _) | (with_reducible refine Later.setCell ?_ (by simp) _) | (with_reducible refine Later.drewN ?_ _) | (with_reducible refine Later.drew ?_) | (with_reducible refine Later.trans ?_ (Hid.out (by assumption))))) hb)
        have hc5 : w5.cell? ⟨w.heap.size, 0, none⟩ = some (.slice s n cap) := (hb.cell (p := ⟨w.heap.size, 0, none⟩) hz3).trans hc3
        have F5 := Lib.hid (fr_later F3.out hb)
        clear hb hc3 hz3 F3
        go_wp2_with fail
        go_loopw [10, 11] (fun v i wr => ∃ k : Nat, k ≤ c' ∧ i = .int .i64 ((f' + k : Nat) : Int) ∧ OwnI wr (w.heap.size + 2) v k (flF R a b k) ∧ alE R a b k = 0 ∧ (∃ lo hi, lo = a + clL R k ∧ hi = b + clH R k ∧ enB lo hi = true ∧ Fr (w.heap.size + 1) [.int .i64 lo, .int .i64 hi] wr) ∧ wr.cell? ⟨w.heap.size, 0, none⟩ = some (.slice s n cap) ∧ Later w wr) (fun _ i _ => (f' + c') - (intOf i).toNat)
        case atStart =>
          have h2 := F5.out.lt
          exact ⟨0, by omega, rfl, ownW_new w5 _ _ _ (by omega), rfl, ⟨a, b, by rw [clL_0, Int.add_zero], by rw [clH_0, Int.add_zero], HEN.out, fr_later F5.out (by repeat (first | (with_reducible exact Later.refl _) | (with_reducible exact Hid.out (by assumption)) | (with_reducible refine Later.alloc ?_ _) | (with_reducible refine Later.setCell ?_ (by simp; omega) _) | (with_reducible refine Later.setCell ?_ (by simp) _) | (with_reducible refine Later.drewN ?_ _) | (with_reducible refine Later.drew ?_) | (with_reducible refine Later.trans ?_ (Hid.out (by assumption)))))⟩, ((show Later w5 _ from (by repeat (first | (with_reducible exact Later.refl _) | (with_reducible exact Hid.out (by assumption)) | (with_reducible refine Later.alloc ?_ _) | (with_reducible refine Later.setCell ?_ (by simp; omega) _) | (with_reducible refine Later.setCell ?_ (by simp) _) | (with_reducible refine Later.drewN ?_ _) | (with_reducible refine Later.drew ?_) | (with_reducible refine Later.trans ?_ (Hid.out (by assumption)))))).cell (p := ⟨w.heap.size, 0, none⟩) (sg_cell_lt hc5)).trans hc5, (by repeat (first | (with_reducible exact Later.refl _) | (with_reducible exact Hid.out (by assumption)) | (with_reducible refine Later.alloc ?_ _) | (with_reducible refine Later.setCell ?_ (by simp; omega) _) | (with_reducible refine Later.setCell ?_ (by simp) _) | (with_reducible refine Later.drewN ?_ _) | (with_reducible refine Later.drew ?_) | (with_reducible refine Later.trans ?_ (Hid.out (by assumption)))))⟩
        case round =>
          clear hc5 F5
          obtain ⟨k, hk, rfl, ho, hal, ⟨lo, hi, hlo, hhi, hen, hF⟩, hc1, hlw⟩ := hrel
          have HO := Lib.hid ho; have HA := Lib.hid hal; have HF := Lib.hid hF; have HW2 := Lib.hid hlw
          have hz1 := sg_cell_lt hc1
          have hz2 := hF.lt
          have hno := ho.1.1
          obtain ⟨f1, f2, f3, f4⟩ := Fr.o2 hF
          clear ho hal hF hlw
          by_cases hlt : k < c'
          · have hseg : sgB (sx R k) = true := okB_at R R.length k (Nat.le_refl _) (by rw [HRL.out]; exact hlt) HOK.out
            obtain ⟨d4, d5, d6⟩ := cl_bd R HOK.out (k + 1) (by rw [HRL.out]; exact hlt)
            obtain ⟨x, hx⟩ : ∃ x, x = a + clL R (k + 1) := ⟨_, rfl⟩
            obtain ⟨y, hy⟩ : ∃ y, y = b + clH R (k + 1) := ⟨_, rfl⟩
            have q1 : lo + chL (sx R k) = x := by rw [hx, hlo, clL_succ R k (by rw [HRL.out]; exact hlt)]; omega
            have q2 : hi + chH (sx R k) = y := by rw [hy, hhi, clH_succ R k (by rw [HRL.out]; exact hlt)]; omega
            obtain ⟨ab1, ab2, ab3⟩ := HAB.out
            have hxy : x ≤ y := by omega
            have hx1 : InR x := ⟨by omega, by omega⟩
            have hy1 : InR y := ⟨by omega, by omega⟩
            have HX := Lib.hid hx; have HY := Lib.hid hy
            have HC : Hid (cdK R a b k = codE x y) := Lib.hid (by unfold cdK; rw [hx, hy])
            clear d4 d5 d6 ab1 ab2 ab3 hx hy hlo hhi
            have HK := Lib.hid (And.intro hc1 (And.intro f1 f2))
            have KL : Hid (∀ w', Later wr w' → w'.cell? ⟨w.heap.size, 0, none⟩ = some (.slice s n cap) ∧ w'.cell? ⟨w.heap.size + 1, 0, none⟩ = some (.int .i64 lo) ∧ w'.cell? ⟨w.heap.size + 1, 1, none⟩ = some (.int .i64 hi)) := Lib.hid (fun w' q => ⟨(q.cell (p := ⟨w.heap.size, 0, none⟩) hz1).trans HK.out.1, (q.cell (p := ⟨w.heap.size + 1, 0, none⟩) hz2).trans HK.out.2.1, (q.cell (p := ⟨w.heap.size + 1, 1, none⟩) hz2).trans HK.out.2.2⟩)
            go_wp2_with fail
            go_cut [12, 13] (GotE wr (okV (codE x y) x) (okV (codE x y) y) (codE x y))
            case first =>
              go_region_held3 (fun w' => w'.cell? ⟨w.heap.size, 0, none⟩ = some (.slice s n cap) ∧ w'.cell? ⟨w.heap.size + 1, 0, none⟩ = some (.int .i64 lo) ∧ w'.cell? ⟨w.heap.size + 1, 1, none⟩ = some (.int .i64 hi)) (exact KL.out _ (by repeat (first | exact Later.refl _ | refine Later.drew ?_ | refine Later.drewN ?_ _ | refine Later.alloc ?_ _ | refine Later.trans ?_ (Hid.out (by assumption)) | refine Later.set_at ?_ ?_ _ _)))
                (first
                  | (go_at_call 48; refine (s_l06Segment s n cap (f' + k) L _ (HS.out.later (by repeat (first | (with_reducible exact Later.refl _) | (with_reducible exact Hid.out (by assumption)) | (with_reducible refine Later.alloc ?_ _) | (with_reducible refine Later.setCell ?_ (by simp; omega) _) | (with_reducible refine Later.setCell ?_ (by simp) _) | (with_reducible refine Later.drewN ?_ _) | (with_reducible refine Later.drew ?_) | (with_reducible refine Later.trans ?_ (Hid.out (by assumption)))))) hn0).mono ?_; rw [HAT.out k hlt]; rintro e w1 ⟨rfl, hb⟩; have H := Lib.hid hb; (first | (have F := fr_alloc hb; obtain ⟨f1, f2, f3, f4⟩ := Fr.o2 F) | (have F := fr_alloc_drew hb; obtain ⟨f1, f2, f3, f4⟩ := Fr.o2 F) | (have F := fr_later (by assumption) hb; obtain ⟨f1, f2, f3, f4⟩ := Fr.o2 F) | skip); clear hb)
                  | (go_at_call 47; refine (s_EnergyAfter_at (sx R k) lo hi x y _ hseg hen q1 q2).mono ?_; rintro e w1 ⟨rfl, hb⟩; have H := Lib.hid hb; (first | (have F := fr_alloc hb; obtain ⟨f1, f2, f3, f4⟩ := Fr.o2 F) | (have F := fr_alloc_drew hb; obtain ⟨f1, f2, f3, f4⟩ := Fr.o2 F) | (have F := fr_later (by assumption) hb; obtain ⟨f1, f2, f3, f4⟩ := Fr.o2 F) | skip); clear hb))
              all_goals
                go_wp2_with fail
                go_meet
                exact ⟨_, rfl, rfl, (by first | (simp; done) | (simp [*]; done) | (simp [go_sem, *]; done)), (by first | (simp; done) | (simp [*]; done) | (simp [go_sem, *]; done)), (by repeat (first | exact Later.refl _ | refine Later.drew ?_ | refine Later.drewN ?_ _ | refine Later.alloc ?_ _ | refine Later.trans ?_ (Hid.out (by assumption)) | refine Later.set_at ?_ ?_ _ _))⟩
            case rest =>
              obtain ⟨g, rfl, rfl, g0, g1, hG⟩ := hcut
              have WC : Hid (Later w wc) := Lib.hid (HW2.out.trans hG)
              have FC := fr_later HF.out hG
              have OC := Lib.hid (HO.out.later hG)
              have cc := (hG.cell (p := ⟨w.heap.size, 0, none⟩) hz1).trans hc1
              have hzc := sg_cell_lt cc
              have hzd := FC.lt
              clear f1 f2 f3 f4 hc1 HK KL HO HF
              obtain ⟨f1, f2, f3, f4⟩ := Fr.o2 FC
              by_cases hcd : codE x y = 0
              · have P1 : okV (codE x y) x = x := by unfold okV; rw [if_pos hcd]
                have P2 : okV (codE x y) y = y := by unfold okV; rw [if_pos hcd]
                rw [P1] at g0
                rw [P2] at g1
                have HCB : (codE x y != 0) = false := by simpa using hcd
                have HN1 : ∀ j, u10.ownBlock = some j → (some (w.heap.size + 1) : Option Nat) ≠ some j := fun j e h => by have := (OC.out.lt j e).1; have := Option.some.inj h; omega
                have O2 : Hid (∀ u v, OwnI ((wc.setCell ⟨w.heap.size + 1, 0, none⟩ u).setCell ⟨w.heap.size + 1, 1, none⟩ v) (w.heap.size + 2) u10 k (flF R a b k)) := Lib.hid (fun u v => (OC.out.kept (grown_set wc _ 0 u) HN1).kept (grown_set _ _ 1 v) HN1)
                have HFC := Lib.hid FC; have HCC := Lib.hid cc
                have HZ := Lib.hid (And.intro hcd (And.intro P1 P2))
                clear P1 P2 hcd FC
                go_wp2_with (at_builtin; go_must (refine appI rfl _ _ rfl (w.heap.size + 2) _ _ _ k (flF R a b k) x y (O2.out _ _) rfl (by first | rfl | (simp only [World.size_setCell]; rfl)) hx1 hy1 (by omega) (by simp; omega) ?_; intro v' w7 ho hg))
                have hcd := HZ.out.1
                have O7 := Lib.hid ho
                have HN2 : u10.ownBlock ≠ some (w.heap.size + 1) := fun e => HN1 _ e rfl
                have F7 := Lib.hid (fr_kept (fr_set (fr_set HFC.out 0 (.int .i64 x)) 1 (.int .i64 y)) hg HN2)
                have C7 : Hid (w7.cell? ⟨w.heap.size, 0, none⟩ = some (.slice s n cap)) := Lib.hid (hg.cell (by rw [World.cell?_setCell_far _ _ _ _ (by simp), World.cell?_setCell_far _ _ _ _ (by simp)]; exact HCC.out) (fun e => by have := (OC.out.lt w.heap.size e.symm).1; omega))
                have W7 : Hid (Later w w7) := Lib.hid (later_kept (Later.setCell (Later.setCell WC.out (by simp) _) (by simp) _) hg (fun j e => by have := (OC.out.lt j e).1; omega))
                have A7 : Hid (alE R a b (k + 1) = 0) := Lib.hid ((fstB_succ _ _ HA.out).trans (HC.out.trans hcd))
                have E7 : Hid (enB x y = true) := Lib.hid (by have := codE_ok x y hcd; rw [enB_iff]; omega)
                clear ho hg hcd f1 f2 f3 f4 g0 g1
                go_roundw
                case rel => exact ⟨k + 1, by omega, by go_num, by rw [flF_succ, ← HX.out, ← HY.out]; exact O7.out, A7.out, ⟨x, y, HX.out, HY.out, E7.out, F7.out⟩, C7.out, W7.out⟩
                case measure => simp [intOf]; omega
              · have T := Lib.hid (HST.out k hlt HA.out (by rw [HC.out]; exact hcd))
                have HCB : (codE x y != 0) = true := by simpa using hcd
                clear hcd
                go_wp2_with fail
                go_ret2
                exact ⟨.slice none 0 0, by rw [T.out.1, HC.out]; rfl, by rw [T.out.2.1, T.out.2.2]; exact ownW_none _ _ _ _, WC.out⟩
          · obtain rfl : k = c' := by omega
            have T := Lib.hid (HFI.out HA.out)
            go_wp2_with fail
            go_ret2
            exact ⟨_, by rw [T.out.1]; rfl, by rw [T.out.2.1, T.out.2.2]; exact HO.out.mono (by omega), HW2.out⟩
      · have T := Lib.hid (ea_bad2 he hz)
        have HB : Hid (((decide (0 ≤ f) && decide (f ≤ (n : Int) - 1)) && (decide (0 ≤ c) && decide (c ≤ 24))) = false) := Lib.hid (by
          rw [Bool.eq_false_iff]; intro h; apply hz; simp at h; unfold sgE; rw [hv, if_pos rfl, HL.out, if_pos (by omega)])
        have E0 : Hid (sgE L f c = 2) := Lib.hid (by
          unfold sgE at hz ⊢
          rw [hv, if_pos rfl] at hz ⊢
          by_cases h : 0 ≤ f ∧ f < (L.length : Int) ∧ 0 ≤ c ∧ c ≤ 24
          · rw [if_pos h] at hz; exact absurd rfl hz
          · rw [if_neg h])
        clear hz
        go_enter Try.func12, Try.ntmps12
        go_upto_region 1 with (fail)
        refine into (fun W => W.cell? ⟨w.heap.size, 0, none⟩ = some (.slice s n cap) ∧ Fr (w.heap.size + 1) [.int .i64 a, .int .i64 b] W ∧ Later w W) ⟨?_, ?_, (by repeat (first | (with_reducible exact Later.refl _) | (with_reducible exact Hid.out (by assumption)) | (with_reducible refine Later.alloc ?_ _) | (with_reducible refine Later.setCell ?_ (by simp; omega) _) | (with_reducible refine Later.setCell ?_ (by simp) _) | (with_reducible refine Later.drewN ?_ _) | (with_reducible refine Later.drew ?_) | (with_reducible refine Later.trans ?_ (Hid.out (by assumption)))))⟩ ?_
        · simp
        · have F2 := fr_alloc (X := w.alloc (.cells #[.slice s n cap] 26)) (l := [.int .i64 a, .int .i64 b]) (T := 28) (Later.refl _)
          rw [World.size_alloc] at F2
          exact F2
        rintro W ⟨hc0, F0, hl⟩
        have HW := Lib.hid hl
        have hz0 := sg_cell_lt hc0
        obtain ⟨f1, f2, f3, f4⟩ := Fr.o2 F0
        have hz1 := F0.lt
        clear hl
        go_wp2_with fail
        refine (s_IsLayout s n cap L _ (HS.out.later (by repeat (first | (with_reducible exact Later.refl _) | (with_reducible exact Hid.out (by assumption)) | (with_reducible refine Later.alloc ?_ _) | (with_reducible refine Later.setCell ?_ (by simp; omega) _) | (with_reducible refine Later.setCell ?_ (by simp) _) | (with_reducible refine Later.drewN ?_ _) | (with_reducible refine Later.drew ?_) | (with_reducible refine Later.trans ?_ (Hid.out (by assumption))))))).mono ?_
        rw [hv]
        rintro e w2 ⟨rfl, hb⟩
        have H2 : Hid (Later w w2) := Lib.hid (Later.trans (by repeat (first | (with_reducible exact Later.refl _) | (with_reducible exact Hid.out (by assumption)) | (with_reducible refine Later.alloc ?_ _) | (with_reducible refine Later.setCell ?_ (by simp; omega) _) | (with_reducible refine Later.setCell ?_ (by simp) _) | (with_reducible refine Later.drewN ?_ _) | (with_reducible refine Later.drew ?_) | (with_reducible refine Later.trans ?_ (Hid.out (by assumption))))) hb)
        have hc1 : w2.cell? ⟨w.heap.size, 0, none⟩ = some (.slice s n cap) := (hb.cell (p := ⟨w.heap.size, 0, none⟩) hz0).trans hc0
        have F1 := fr_later F0 hb
        obtain ⟨f1, f2, f3, f4⟩ := Fr.o2 F1
        have hz2 := sg_cell_lt hc1
        clear hb F0 hc0 hz0 hz1
        go_wp2_with fail
        refine (s_IsEnergy _ _ _).mono ?_
        rw [he]
        rintro e w3 ⟨rfl, hb⟩
        have H3 : Hid (Later w w3) := Lib.hid (Later.trans (by repeat (first | (with_reducible exact Later.refl _) | (with_reducible exact Hid.out (by assumption)) | (with_reducible refine Later.alloc ?_ _) | (with_reducible refine Later.setCell ?_ (by simp; omega) _) | (with_reducible refine Later.setCell ?_ (by simp) _) | (with_reducible refine Later.drewN ?_ _) | (with_reducible refine Later.drew ?_) | (with_reducible refine Later.trans ?_ (Hid.out (by assumption))))) hb)
        have hc3 : w3.cell? ⟨w.heap.size, 0, none⟩ = some (.slice s n cap) := (hb.cell (p := ⟨w.heap.size, 0, none⟩) hz2).trans hc1
        have F3 := Lib.hid (fr_later F1 hb)
        have hz3 := sg_cell_lt hc3
        clear hb F1 hc1 hz2 f1 f2 f3 f4
        go_wp2_with fail
        refine (s_Range s n cap f c false _ hnm HB.out).mono ?_
        rintro e w5 ⟨rfl, hb⟩
        have H5 := Lib.hid hb
        clear hb
        go_wp2_with fail
        go_ret2
        exact ⟨.slice none 0 0, by rw [T.out.1, E0.out]; rfl, by rw [T.out.2.1, T.out.2.2]; exact ownW_none _ _ _ _, (by repeat (first | (with_reducible exact Later.refl _) | (with_reducible exact Hid.out (by assumption)) | (with_reducible refine Later.alloc ?_ _) | (with_reducible refine Later.setCell ?_ (by simp; omega) _) | (with_reducible refine Later.setCell ?_ (by simp) _) | (with_reducible refine Later.drewN ?_ _) | (with_reducible refine Later.drew ?_) | (with_reducible refine Later.trans ?_ (Hid.out (by assumption)))))⟩
end Go.Proofs.Ytnmlkigpiaekjaa
namespace Go.Proofs.Ytnmlkigpiaekjaa
set_option linter.unusedSimpArgs false
set_option linter.unusedVariables false
theorem clL_congr (R S : List Sg) (k : Nat) (hR : k ≤ R.length) (hS : k ≤ S.length) (h : ∀ j, j < k → sx R j = sx S j) : clL R k = clL S k ∧ clH R k = clH S k := by
  induction k with
  | zero => simp [clL_0, clH_0]
  | succ k ih =>
    obtain ⟨a, b⟩ := ih (by omega) (by omega) (fun j hj => h j (by omega))
    rw [clL_succ R k (by omega), clL_succ S k (by omega), clH_succ R k (by omega), clH_succ S k (by omega), a, b, h k (by omega)]
    exact ⟨rfl, rfl⟩
theorem clL_shift (R S : List Sg) (k j : Nat) (hR : k + j ≤ R.length) (hS : j ≤ S.length) (h : ∀ i, i < j → sx S i = sx R (k + i)) : clL R (k + j) = clL R k + clL S j ∧ clH R (k + j) = clH R k + clH S j := by
  induction j with
  | zero => simp [clL_0, clH_0]
  | succ j ih =>
    obtain ⟨a, b⟩ := ih (by omega) (by omega) (fun i hi => h i (by omega))
    rw [show k + (j + 1) = (k + j) + 1 by omega, clL_succ R (k + j) (by omega), clL_succ S j (by omega), clH_succ R (k + j) (by omega), clH_succ S j (by omega), a, b, h j (by omega)]
    omega
theorem flF_congr (R S : List Sg) (a b : Int) (k : Nat) (h : ∀ j, j < k → clL R (j + 1) = clL S (j + 1) ∧ clH R (j + 1) = clH S (j + 1)) : flF R a b k = flF S a b k := by
  induction k with
  | zero => rfl
  | succ k ih => rw [flF_succ, flF_succ, ih (fun j hj => h j (by omega)), (h k (by omega)).1, (h k (by omega)).2]
theorem flF_add (R S : List Sg) (a b a' b' : Int) (k j : Nat) (h : ∀ i, i < j → a + clL R (k + i + 1) = a' + clL S (i + 1) ∧ b + clH R (k + i + 1) = b' + clH S (i + 1)) : flF R a b (k + j) = flF R a b k ++ flF S a' b' j := by
  induction j with
  | zero => rw [flF_0, List.append_nil]; rfl
  | succ j ih => rw [show k + (j + 1) = (k + j) + 1 by omega, flF_succ, flF_succ, ih (fun i hi => h i (by omega)), (h j (by omega)).1, (h j (by omega)).2, List.append_assoc]
theorem flF_gx (R : List Sg) (a b : Int) (n k : Nat) (h : k < n) : gx (flF R a b n) (k * 2) = a + clL R (k + 1) ∧ gx (flF R a b n) (k * 2 + 1) = b + clH R (k + 1) := by
  induction n with
  | zero => omega
  | succ n ih =>
    have hl := flF_len R a b n
    rw [flF_succ]
    by_cases e : k = n
    · subst e
      constructor
      · rw [gx_of _ _ (by simp; omega), List.getElem_append_right (by omega)]; simp [hl]
      · rw [gx_of _ _ (by simp; omega), List.getElem_append_right (by omega)]; simp [hl]
    · obtain ⟨p, q⟩ := ih (by omega)
      rw [gx_of _ _ (by simp; omega), List.getElem_append_left (by omega), ← gx_of _ _ (by omega), gx_of _ (k * 2 + 1) (by simp; omega), List.getElem_append_left (by omega), ← gx_of _ _ (by omega)]
      exact ⟨p, q⟩
/-- coasting over segments in two parts is coasting over them at once -/
theorem two_parts (L : List Sg) (f' c' k : Nat) (x y : Int) (hl : layB L = true) (hf : f' < L.length) (hc : c' ≤ 24) (hk1 : 1 ≤ k) (hk : k ≤ c') (he : enB x y = true) (h : eaE L (f' : Int) (c' : Int) x y = 0) :
    eaE L (f' : Int) (k : Int) x y = 0 ∧ eaN L (f' : Int) (k : Int) x y = k ∧ eaV L (f' : Int) (k : Int) x y = flF (runS L f' c') x y k ∧
    eaE L (((f' + k) % L.length : Nat) : Int) ((c' - k : Nat) : Int) (x + clL (runS L f' c') k) (y + clH (runS L f' c') k) = 0 ∧
    eaN L (((f' + k) % L.length : Nat) : Int) ((c' - k : Nat) : Int) (x + clL (runS L f' c') k) (y + clH (runS L f' c') k) = c' - k ∧
    flF (runS L f' c') x y c' = flF (runS L f' c') x y k ++ eaV L (((f' + k) % L.length : Nat) : Int) ((c' - k : Nat) : Int) (x + clL (runS L f' c') k) (y + clH (runS L f' c') k) ∧
    eaN L (f' : Int) (c' : Int) x y = c' ∧ eaV L (f' : Int) (c' : Int) x y = flF (runS L f' c') x y c' := by
  have hn0 : 0 < L.length := by omega
  have sg : ∀ f c : Nat, f < L.length → c ≤ 24 → sgE L (f : Int) (c : Int) = 0 := fun f c h1 h2 => by unfold sgE; rw [if_pos hl, if_pos (by omega)]
  have ok : ∀ f c : Nat, okB (runS L f c) (runS L f c).length = true := fun f c => runS_okB L f c ((layB_iff L).1 hl).2.2.1 hn0
  have at0 : ∀ (f c : Nat) (a b : Int), enB a b = true → f < L.length → c ≤ 24 → eaE L (f : Int) (c : Int) a b = alE (runS L f c) a b c := fun f c a b h1 h2 h3 => by
    unfold eaE; rw [if_pos h1, if_pos (sg f c h2 h3)]; simp
  have fin : ∀ (f c : Nat) (a b : Int), eaE L (f : Int) (c : Int) a b = 0 → eaN L (f : Int) (c : Int) a b = c ∧ eaV L (f : Int) (c : Int) a b = flF (runS L f c) a b c := fun f c a b h1 =>
    ⟨by unfold eaN; rw [if_pos h1]; simp, by unfold eaV; rw [if_pos h1]; simp⟩
  obtain ⟨R, hR⟩ : ∃ R, R = runS L f' c' := ⟨_, rfl⟩
  have hRl : R.length = c' := by rw [hR, runS_len]
  have hok : okB R R.length = true := by rw [hR]; exact ok f' c'
  have h0 := h
  rw [at0 f' c' x y he hf hc, ← hR] at h0
  have hz := (fstB_zero _ _).1 h0
  rw [← hR]
  have hexy := (enB_iff x y).1 he
  -- the first part
  have p1 : ∀ j, j ≤ k → clL (runS L f' k) j = clL R j ∧ clH (runS L f' k) j = clH R j := fun j hj => by
    refine clL_congr _ _ j (by rw [runS_len]; omega) (by omega) (fun i hi => ?_)
    rw [runS_at L f' k i (by omega), hR, runS_at L f' c' i (by omega)]
  have e1 : eaE L (f' : Int) (k : Int) x y = 0 := by
    rw [at0 f' k x y he hf (by omega)]
    refine (fstB_zero _ _).2 (fun j hj => ?_)
    have := hz j (by omega)
    unfold cdK at *
    rw [(p1 (j + 1) (by omega)).1, (p1 (j + 1) (by omega)).2]; exact this
  obtain ⟨e2, e3⟩ := fin f' k x y e1
  have e3' : eaV L (f' : Int) (k : Int) x y = flF R x y k := by rw [e3]; exact flF_congr _ _ x y k (fun j hj => p1 (j + 1) (by omega))
  -- the second part
  have hm : (f' + k) % L.length < L.length := Nat.mod_lt _ hn0
  obtain ⟨S, hS⟩ : ∃ S, S = runS L ((f' + k) % L.length) (c' - k) := ⟨_, rfl⟩
  have hSl : S.length = c' - k := by rw [hS, runS_len]
  have p2 : ∀ j, j ≤ c' - k → clL R (k + j) = clL R k + clL S j ∧ clH R (k + j) = clH R k + clH S j := fun j hj => by
    refine clL_shift R S k j (by omega) (by omega) (fun i hi => ?_)
    rw [hS, runS_at _ _ _ i (by omega), hR, runS_at L f' c' (k + i) (by omega), Nat.mod_add_mod, Nat.add_assoc]
  have hk0 := hz (k - 1) (by omega)
  unfold cdK at hk0
  rw [show k - 1 + 1 = k by omega] at hk0
  have hcd := codE_ok _ _ hk0
  have hbd := cl_bd R hok k (by omega)
  have he2 : enB (x + clL R k) (y + clH R k) = true := by rw [enB_iff]; omega
  have e4 : eaE L (((f' + k) % L.length : Nat) : Int) ((c' - k : Nat) : Int) (x + clL R k) (y + clH R k) = 0 := by
    rw [at0 _ _ _ _ he2 hm (by omega), ← hS]
    refine (fstB_zero _ _).2 (fun j hj => ?_)
    have := hz (k + j) (by omega)
    unfold cdK at *
    obtain ⟨q1, q2⟩ := p2 (j + 1) (by omega)
    rw [show k + j + 1 = k + (j + 1) by omega, q1, q2] at this
    rw [show x + clL R k + clL S (j + 1) = x + (clL R k + clL S (j + 1)) by omega, show y + clH R k + clH S (j + 1) = y + (clH R k + clH S (j + 1)) by omega]
    exact this
  obtain ⟨e5, e6⟩ := fin _ _ _ _ e4
  obtain ⟨e7, e8⟩ := fin f' c' x y h
  refine ⟨e1, e2, e3', e4, e5, ?_, e7, by rw [e8, hR]⟩
  rw [e6, ← hS]
  have := flF_add R S x y (x + clL R k) (y + clH R k) k (c' - k) (fun i hi => by
    obtain ⟨q1, q2⟩ := p2 (i + 1) (by omega)
    rw [show k + i + 1 = k + (i + 1) by omega, q1, q2]
    omega)
  rw [show k + (c' - k) = c' by omega] at this
  exact this
end Go.Proofs.Ytnmlkigpiaekjaa
namespace Go.Proofs.Ytnmlkigpiaekjaa
open Go.RowKit
set_option maxHeartbeats 2000000
set_option linter.unusedVariables false
set_option linter.unusedSimpArgs false
theorem wpList_whenW {P : Program} {ops : Array Oper} {Q : Exit → Act → World → Prop} {a : Act} {w : World} {rest : List Oper} {o : Oper} (hw : Region.wanted o (yielded ops a.tmps) = true)
    (h : ∀ K : Act → World → Prop, (∀ a w, wpList P ops Q rest a w → K a w) → o.wp P a w K Q) : wpList P ops Q (o :: rest) a w :=
  wpList_step fun K hK => by rw [if_pos hw]; exact h K hK
theorem cells_of_wd {w : World} {x : Addr} {m wd : Nat} {l : List Int} (h : Wd w (some x) m wd l) : ∀ j u, (l.map (Value.int .i64))[j]? = some u → w.cell? (x.add j) = some u := by
  intro j u hj
  have hjl : j < l.length := by
    rcases Nat.lt_or_ge j l.length with h | h
    · exact h
    · rw [List.getElem?_eq_none (by simpa using h)] at hj; cases hj
  obtain ⟨b, off, he, hc⟩ := h.2.2.1 j (by rw [← h.1]; exact hjl)
  cases he
  rw [List.getElem?_map, List.getElem?_eq_getElem hjl] at hj
  simp at hj
  rw [Addr.add_lit, hc, gx_of l j hjl, ← hj]
/-- append(v, M...): v of the call's own, M whatever can be read -/
theorem appWall {ops : Array Oper} {rest : List Oper} {o : Oper} {a : Act} {Q : Exit → Act → World → Prop} (s x : Operand) (T S : TypeId) (z : Value) (wd bytes : Nat)
    (hI : (Try.prog.info? T).map (fun i => (i.zero, i.size, i.bytes)) = some (some z, wd, bytes)) (hU : Try.prog.underlying S = some (.slice T)) (hzs : z.cells.size = wd) (hwd : 0 < wd) (hby : bytes ≤ 1000)
    (ho : o.op = .call { callee := .builtin .append, args := #[s, x], argTypes := #[S, S] })
    (base : Nat) (W : World) (v : Value) (n m : Nat) (l M : List Int) (sa : Option Addr) (cap : Nat) (hown : OwnW W base T wd v n l) (hsl : Wd W sa m wd M) (hnil : sa = none → cap = 0) (hw : Region.wanted o (yielded ops a.tmps) = true) (hs : a.eval s = v) (hx : a.eval x = .slice sa m cap) (hl : n + m ≤ 1000000000) (hbase : base ≤ W.heap.size)
    (h : ∀ v' w', OwnW w' base T wd v' (n + m) (l ++ M) → W.grownBy w' v.ownBlock → wpList Try.prog ops Q rest (a.put o.dst v') w') : wpList Try.prog ops Q (o :: rest) a W := by
  obtain ⟨i0, hi, hz0, hz1, hz2⟩ := info_parts hI
  refine wpList_whenW hw fun K hK => ?_
  have hbb : (n + m) * bytes ≤ 1000000000 * 1000 := Nat.mul_le_mul hl hby
  cases sa with
  | none =>
    have e : m = 0 := by
      cases m with
      | zero => rfl
      | succ m =>
        obtain ⟨b, off, he, _⟩ := hsl.2.2.1 0 (Nat.mul_pos (Nat.succ_pos _) hwd)
        cases he
    subst e
    have e2 : M = [] := List.length_eq_zero_iff.1 (by rw [hsl.1]; simp)
    subst e2
    have ec := hnil rfl
    subst ec
    have hrun := run_append_owned_none (P := Try.prog) (w := W) base S o.type T i0 wd hU hi v n (l.map (Value.int .i64)) hown.1
    unfold Oper.wp
    simp [execOp, ho, resolve, invoke, builtin, hs, hx, hrun, Result.andThen]
    exact hK _ _ (h v W (by simpa using hown) ⟨rfl, rfl, rfl, Nat.le_refl _, fun _ _ _ => rfl⟩)
  | some ad =>
    refine wp_append_own W s x _ ho base T i0 z wd bytes hU hi hz0 hz1 hz2 hzs hwd v n _ hs hown.1 ad m cap (M.map (Value.int .i64)) hx (by rw [List.length_map, hsl.1]) (cells_of_wd hsl) ?_ (by unfold maxLen; omega) (by omega) hbase ?_
    · intro u hu
      rw [List.mem_map] at hu
      obtain ⟨y, _, rfl⟩ := hu
      rfl
    · intro v' w' h1 h2 _
      refine hK _ _ (h v' w' ⟨by rw [List.map_append]; exact h1, ?_⟩ h2)
      intro u hu
      rw [List.mem_append] at hu
      rcases hu with hu | hu
      · exact hown.2 u hu
      · exact hsl.2.2.2 u hu
end Go.Proofs.Ytnmlkigpiaekjaa
namespace Go.Proofs.Ytnmlkigpiaekjaa
open Go.RowKit
set_option maxHeartbeats 2000000
set_option linter.unusedVariables false
set_option linter.unusedSimpArgs false
def Dice (w : World) (D : Nat) (a : Option Addr) (len cap : Nat) : Prop :=
  (∃ (i : Nat) (h : Int), i ≤ len ∧ w.heap[D]? = some (.cells #[.slice a len cap, .int .i64 i, .int .u64 h] 83 (0, 0))) ∧ Code8 w D a len
theorem Dice.lt {w : World} {D : Nat} {a : Option Addr} {len cap : Nat} (h : Dice w D a len cap) : D < w.heap.size := by
  obtain ⟨⟨i, s, _, hb⟩, _⟩ := h
  exact (Array.getElem?_eq_some_iff.1 hb).1
theorem dice_and (E : Int) (h0 : 0 ≤ E) (h1 : E ≤ 18446744073709551615) : 0 ≤ bits BinOp.and IntKind.u64 E 16777215 ∧ bits BinOp.and IntKind.u64 E 16777215 ≤ 16777215 := by
  have h := bits_and_u64_nat E.toNat 16777215 (by omega) (by omega)
  rw [Int.toNat_of_nonneg h0] at h
  have h2 : E.toNat &&& 16777215 ≤ 16777215 := Nat.and_le_right
  have h3 : bits BinOp.and IntKind.u64 E 16777215 = ((E.toNat &&& 16777215 : Nat) : Int) := h
  rw [h3]
  omega
theorem u64_bd (x : Int) : 0 ≤ IntKind.u64.wrap x ∧ IntKind.u64.wrap x ≤ 18446744073709551615 := by
  simp [IntKind.wrap, IntKind.signed, IntKind.bits]
  omega
theorem dice_x (h : Int) : ∃ X : Int, wrap64 (bits BinOp.and IntKind.u64 (IntKind.u64.wrap (IntKind.u64.wrap (h * 6364136223846793005) + 1442695040888963407) / 8589934592) 16777215) = X ∧ 0 ≤ X ∧ X ≤ 16777215 := by
  obtain ⟨a, b⟩ := u64_bd (IntKind.u64.wrap (h * 6364136223846793005) + 1442695040888963407)
  generalize IntKind.u64.wrap (IntKind.u64.wrap (h * 6364136223846793005) + 1442695040888963407) = E at *
  obtain ⟨c, d⟩ := dice_and (E / 8589934592) (by omega) (by omega)
  generalize bits BinOp.and IntKind.u64 (E / 8589934592) 16777215 = Y at *
  refine ⟨_, rfl, ?_, ?_⟩ <;> unfold wrap64 <;> omega
theorem dice_fin0 {w : World} {D : Nat} {a : Option Addr} {len cap i : Nat} {h v : Int} (q : Nat) (hb : w.heap[D]? = some (.cells #[.slice a len cap, .int .i64 i, .int .u64 h] 83 (0, 0))) (hc : Code8 w D a len) (hi : i ≤ len) :
    Dice ((w.setCell ⟨D, 2, none⟩ (.int .u64 v)).drewN q) D a len cap ∧ w.grownBy ((w.setCell ⟨D, 2, none⟩ (.int .u64 v)).drewN q) (some D) := by
  have g : w.grownBy ((w.setCell ⟨D, 2, none⟩ (.int .u64 v)).drewN q) (some D) := grown_trans (grown_set _ _ _ _) (grown_drewN _ _ _)
  exact ⟨⟨⟨i, v, hi, set2 hb⟩, hc.kept g⟩, g⟩
theorem dice_fin {w : World} {D : Nat} {a : Option Addr} {len cap i : Nat} {h v x : Int} (q q' : Nat) (hb : w.heap[D]? = some (.cells #[.slice a len cap, .int .i64 i, .int .u64 h] 83 (0, 0))) (hc : Code8 w D a len) (hi : i + 1 ≤ len) (hx : x = ((i + 1 : Nat) : Int)) :
    Dice ((((w.setCell ⟨D, 2, none⟩ (.int .u64 v)).drewN q).setCell ⟨D, 1, none⟩ (.int .i64 x)).drewN q') D a len cap ∧ w.grownBy ((((w.setCell ⟨D, 2, none⟩ (.int .u64 v)).drewN q).setCell ⟨D, 1, none⟩ (.int .i64 x)).drewN q') (some D) := by
  have g : w.grownBy ((((w.setCell ⟨D, 2, none⟩ (.int .u64 v)).drewN q).setCell ⟨D, 1, none⟩ (.int .i64 x)).drewN q') (some D) :=
    grown_trans (grown_trans (grown_trans (grown_set _ _ _ _) (grown_drewN _ _ _)) (grown_set _ _ _ _)) (grown_drewN _ _ _)
  subst hx
  exact ⟨⟨⟨i + 1, v, hi, set1 (show ((w.setCell ⟨D, 2, none⟩ (.int .u64 v)).drewN q).heap[D]? = _ from set2 hb)⟩, hc.kept g⟩, g⟩
def Below' (w : World) (D : Nat) (a : Option Addr) (len cap : Nat) (n : Int) (e : Ending) (w' : World) : Prop :=
  ∃ r : Int, e = .returned (.int .i64 r) ∧ 0 ≤ r ∧ r < n ∧ Dice w' D a len cap ∧ w.grownBy w' (some D)
theorem l_below (D : Nat) (a : Option Addr) (len cap : Nat) (n : Int) (w : World) (hs : Dice w D a len cap) (hn : 1 ≤ n) (hn2 : n ≤ 9223372036854775807) :
    Calls Try.prog 15 #[.pointer (some ⟨D, 0, none⟩), .int .i64 n] w (Below' w D a len cap n) := by
  obtain ⟨⟨i, h, hi, hb⟩, hc⟩ := hs
  have HB := Lib.hid hb; have HC := Lib.hid hc
  have hl := hc.1
  clear hc
  have c0 : w.cell? ⟨D, 0, none⟩ = some (.slice a len cap) := by simp [World.cell?, hb]
  have c1 : w.cell? ⟨D, 1, none⟩ = some (.int .i64 i) := by simp [World.cell?, hb]
  have c2 : w.cell? ⟨D, 2, none⟩ = some (.int .u64 h) := by simp [World.cell?, hb]
  have f1 : w.frozen? ⟨D, 1, none⟩ = false := by simp [World.frozen?, hb]
  have f2 : w.frozen? ⟨D, 2, none⟩ = false := by simp [World.frozen?, hb]
  clear hb
  obtain ⟨X, hX, x0, x1⟩ := dice_x h
  have mod_bd : ∀ x : Int, 0 ≤ x → 0 ≤ x % n ∧ x % n < n := fun x hx => ⟨Int.emod_nonneg _ (by omega), Int.emod_lt_of_pos _ (by omega)⟩
  have MB := Lib.hid mod_bd
  clear mod_bd
  by_cases h2 : i < len
  · obtain ⟨b, off, y, rfl, hne, hy, y0, y1⟩ := HC.out.2 i h2
    have hxy : 0 ≤ X + y := by omega
    go_enter Try.func15, Try.ntmps15
    go_wp2
    go_quiet (fail)
    go_wp2
    go_quiet (fail)
    go_wp2
    go_ret
    obtain ⟨r0, r1⟩ := MB.out _ hxy
    exact ⟨_, rfl, r0, r1, dice_fin _ 0 HB.out HC.out (by omega) (by omega)⟩
  · go_enter Try.func15, Try.ntmps15
    go_wp2
    go_quiet (fail)
    go_wp2
    go_ret
    obtain ⟨r0, r1⟩ := MB.out _ x0
    exact ⟨_, rfl, r0, r1, dice_fin0 _ HB.out HC.out hi⟩
def Rolled (w : World) (a : Option Addr) (len cap : Nat) (e : Ending) (w' : World) : Prop :=
  e = .returned (.pointer (some ⟨w.heap.size, 0, none⟩)) ∧ Dice w' w.heap.size a len cap ∧ w.heap.size < w'.heap.size ∧ Later w w'
theorem l_roll (a : Option Addr) (len cap : Nat) (s : Int) (w : World) (hs : Bytes w a len) :
    Calls Try.prog 14 #[.slice a len cap, .int .u64 s] w (Rolled w a len cap) := by
  have HS := Lib.hid hs
  have hl := hs.1
  clear hs
  go_enter Try.func14, Try.ntmps14
  go_wp2
  go_loopw [6] (fun i wr => ∃ (k : Nat) (h : Int), k ≤ len ∧ i = .int .i64 k ∧ wr.heap[w.heap.size]? = some (.cells #[.slice a len cap, .int .i64 0, .int .u64 h] 83 (0, 0)) ∧ Later w wr) (fun i _ => len - (intOf i).toNat)
  case atStart => exact ⟨0, _, by omega, rfl, heap_alloc_new w _, (Later.refl _).alloc _⟩
  case round =>
    obtain ⟨k, h, hk, rfl, hb, hB⟩ := hrel
    have HB := Lib.hid hb
    have HW := Lib.hid hB
    have c2 : wr.cell? ⟨w.heap.size, 2, none⟩ = some (.int .u64 h) := by simp [World.cell?, hb]
    have f2 : wr.frozen? ⟨w.heap.size, 2, none⟩ = false := by simp [World.frozen?, hb]
    clear hb hB
    by_cases hlt : k < len
    · obtain ⟨b, off, x, rfl, hx0, x0, x1⟩ := HS.out.2 k hlt
      have hx : wr.cell? ⟨b, off + k, none⟩ = some (.int .u8 x) := by rw [HW.out.cell (p := ⟨b, off + k, none⟩) (cell_lt hx0)]; exact hx0
      clear hx0
      go_wp2
      go_region
      go_wp2
      go_roundw
      case rel => exact ⟨k + 1, _, by omega, by go_num, set2 HB.out, (HW.out.drew.setCell (Nat.le_refl _) _)⟩
      case measure => simp [intOf]; omega
    · go_wp2
      go_ret
      exact ⟨rfl, ⟨⟨0, h, by omega, HB.out⟩, bytes_code HS.out HW.out⟩, cell_lt c2, HW.out⟩
end Go.Proofs.Ytnmlkigpiaekjaa
namespace Go.Proofs.Ytnmlkigpiaekjaa
open Go.RowKit
set_option maxHeartbeats 2000000
set_option linter.unusedVariables false
set_option linter.unusedSimpArgs false
/-- a slice of integers that came in, as the shell of a proof says it -/
def IsRow (k : IntKind) (w : World) (a : Option Addr) (len cap : Nat) (zs : List Int) : Prop :=
  (a = none ∧ len = 0 ∧ cap = 0 ∧ zs = []) ∨
  ∃ x, a = some x ∧ len ≤ cap ∧ cap ≤ maxLen ∧ zs.length = cap ∧ (∀ i, i < zs.length → w.cell? (x.add i) = some (.int k (zs.getD i 0))) ∧ ∀ n ∈ zs, (Lit.int k n).wf = true
theorem isRow_sl {w : World} {a : Option Addr} {len cap : Nat} {zs : List Int} (h : IsRow .i64 w a len cap zs) : Sl w a len (zs.take len) := by
  rcases h with ⟨rfl, rfl, rfl, rfl⟩ | ⟨x, rfl, hl, hm, hz, hc, hw⟩
  · exact ⟨rfl, by omega, fun k hk => absurd hk (by omega), fun x hx => by simp at hx⟩
  · unfold maxLen at hm
    refine ⟨by rw [List.length_take]; omega, by omega, fun k hk => ?_, fun y hy => ?_⟩
    · have h0 := hc 0 (by omega)
      have hk0 := hc k (by omega)
      obtain ⟨b, off, spot⟩ := x
      have hspot : spot = none := by simpa [Addr.add] using World.cell?_spot h0
      subst hspot
      rw [Addr.add_lit] at hk0
      exact ⟨b, off, rfl, by rw [gx_take _ _ _ hk]; exact hk0⟩
    · have := hw y (List.mem_of_mem_take hy)
      simp [Lit.wf, IntKind.min, IntKind.max, IntKind.signed, IntKind.bits] at this
      exact this
theorem isRow_bytes {w : World} {a : Option Addr} {len cap : Nat} {zs : List Int} (h : IsRow .u8 w a len cap zs) : Bytes w a len := by
  rcases h with ⟨rfl, rfl, rfl, rfl⟩ | ⟨x, rfl, hl, hm, hz, hc, hw⟩
  · exact ⟨by omega, fun k hk => absurd hk (by omega)⟩
  · unfold maxLen at hm
    refine ⟨by omega, fun k hk => ?_⟩
    have h0 := hc 0 (by omega)
    have hk0 := hc k (by omega)
    obtain ⟨b, off, spot⟩ := x
    have hspot : spot = none := by simpa [Addr.add] using World.cell?_spot h0
    subst hspot
    rw [Addr.add_lit] at hk0
    have hb := hw (zs.getD k 0) (show gx zs k ∈ zs from gx_mem zs k (by omega))
    simp [Lit.wf, IntKind.min, IntKind.max, IntKind.signed, IntKind.bits] at hb
    exact ⟨b, off, zs.getD k 0, rfl, hk0, by simpa using hb.1, by simpa using hb.2⟩
end Go.Proofs.Ytnmlkigpiaekjaa
namespace Go.Proofs.Ytnmlkigpiaekjaa
open Go.RowKit
set_option maxHeartbeats 4000000
set_option linter.unusedVariables false
set_option linter.unusedSimpArgs false
theorem Held.x1 {l : List (Nat × Nat × Value)} {w0 W : World} (h : Held l w0 W) (v0 : Value) (T : TypeId) : Held ((W.heap.size, 0, v0) :: l) w0 (W.alloc (.cells #[v0] T)) := held_box h W.heap.size [v0] T rfl
theorem Held.x2 {l : List (Nat × Nat × Value)} {w0 W : World} (h : Held l w0 W) (v0 v1 : Value) (T : TypeId) : Held ((W.heap.size, 0, v0) :: (W.heap.size, 1, v1) :: l) w0 (W.alloc (.cells #[v0, v1] T)) := held_box h W.heap.size [v0, v1] T rfl
theorem Held.dice {l : List (Nat × Nat × Value)} {w0 W W1 : World} {D : Nat} (h : Held l w0 W) (hl : ∀ x ∈ l, x.1 ≠ D) (hD : w0.heap.size ≤ D) (gr : W.grownBy W1 (some D)) : Held l w0 W1 := by
  refine ⟨fun x hx => ?_, Below.grown h.2 gr h.2.size (fun k e => by have := Option.some.inj e; omega)⟩
  obtain ⟨b, c⟩ := h.1 x hx
  have hne := hl x hx
  exact ⟨Nat.lt_of_lt_of_le b gr.size, gr.cell c (by simpa using hne)⟩
set_option maxRecDepth 100000 in
theorem walk_FnEnergyRuns (a0 : Option Addr) (len0 cap0 : Nat) (z0 : List Int) (w : World) (w0 : IsRow .u8 w a0 len0 cap0 z0) :
    Calls Try.prog 3 #[.slice a0 len0 cap0] w fun e w' => e = .returned (.bool true) ∧ Below w.heap.size w w' := by
  have HS := Lib.hid (isRow_bytes w0)
  clear w0
  by_cases hbig : 4096 < len0
  · go_enter Try.func3, Try.ntmps3
    go_wp2_with fail
    refine (l_big _ _ _ _).mono ?_
    rintro e w' ⟨rfl, rfl⟩
    go_wp2
    go_ret
    exact ⟨rfl, Below.refl _ _⟩
  · go_enter Try.func3, Try.ntmps3
    go_wp2_with fail
    refine (l_big _ _ _ _).mono ?_
    rintro e w' ⟨rfl, rfl⟩
    go_wp2_with fail
    refine (s_DrawEnergyAlong _ _ _ _ HS.out).mono ?_
    rintro e w1 ⟨a', n, cap', L, f, c, x, y, rfl, hl, ⟨f1, f2⟩, ⟨c1, c2⟩, hx, hy, hb⟩
    have h2 := (((held_start w).later hb).x1 (.slice a' n cap') 26).x2 (.int .i64 x) (.int .i64 y) 28
    simp only [World.size_alloc] at h2
    have H2 := Lib.hid h2
    have L2 := Lib.hid (hl.later (((Later.refl w1).alloc (.cells #[.slice a' n cap'] 26)).alloc (.cells #[.int .i64 x, .int .i64 y] 28)))
    clear hb h2 hl hx hy
    obtain ⟨N, hN⟩ : ∃ N, N = eaN L f c x y := ⟨_, rfl⟩
    obtain ⟨V, hV⟩ : ∃ V, V = eaV L f c x y := ⟨_, rfl⟩
    obtain ⟨C, hC⟩ : ∃ C, C = eaE L f c x y := ⟨_, rfl⟩
    have HN := Lib.hid hN; have HV := Lib.hid hV; have HC := Lib.hid hC
    have e0 : (C != C) = false := by simp
    clear hN hV hC
    obtain ⟨k1, k2, k3, _⟩ := Held.s3 H2.out
    go_wp2_with fail
    refine (i_EnergyAlong a' n cap' L f c x y _ L2.out).mono ?_
    rw [← HN.out, ← HV.out, ← HC.out]
    rintro e w3 ⟨v, rfl, ho, hb⟩
    obtain ⟨ax, qx, rfl, hqx, hwx, hbx, _⟩ := ho.wd
    have H3 := Lib.hid (H2.out.later hb)
    have L3 := Lib.hid (L2.out.later hb)
    have X3 := Lib.hid hwx
    have BX : Hid (∀ z, ax = some z → z.block < w3.heap.size) := Lib.hid (fun z hz => (hbx z hz).2)
    clear hb ho hwx hqx hbx k1 k2 k3
    obtain ⟨k1, k2, k3, _⟩ := Held.s3 H3.out
    go_wp2_with fail
    refine (s_EnergyAlong a' n cap' L f c x y _ L3.out).mono ?_
    rw [← HN.out, ← HV.out, ← HC.out]
    rintro e w4 ⟨v, rfl, ho, hb⟩
    obtain ⟨am, qm, rfl, hqm, hwm, hbm, _⟩ := ho.wd
    have H4 := Lib.hid (H3.out.later hb)
    have hz34 := hb.size
    have L4 := Lib.hid (L3.out.later hb)
    have X4 := Lib.hid (X3.out.later hb)
    have M4 := Lib.hid hwm
    clear hb ho hwm hqm hbm k1 k2 k3
    go_wp2_with fail
    refine (l_likeIntervals_same ax am N qx N qm V _ X4.out M4.out).mono ?_
    rintro e w5 ⟨rfl, hb⟩
    have H5 := Lib.hid (H4.out.later hb)
    have hz45 := hb.size
    have L5 := Lib.hid (L4.out.later hb)
    have X5 := Lib.hid (X4.out.later hb)
    clear hb M4
    by_cases hC0 : C = 0
    · by_cases hc0 : c = 0
      · have hC1 : (C != 0) = false := by simp [hC0]
        have hc1 : (c == 0) = true := by simp [hc0]
        clear hC0 hc0
        go_wp2_with fail
        go_ret
        exact ⟨rfl, H5.out.is⟩
      · have hC1 : (C != 0) = false := by simp [hC0]
        have hc1 : (c == 0) = false := by simpa using hc0
        have hea : eaE L f c x y = 0 := by rw [← HC.out]; exact hC0
        have he : enB x y = true := by
          cases h : enB x y
          · have := (ea_bad1 (L := L) (f := f) (c := c) h).1; rw [hea] at this; cases this
          · rfl
        have hz : sgE L f c = 0 := by
          by_cases h : sgE L f c = 0
          · exact h
          · have := (ea_bad2 (a := x) (b := y) he h).1; rw [hea] at this; exact absurd this.symm h
        obtain ⟨hv, f', c', rfl, rfl, hf, hc⟩ := sgE_ok hz
        have hl3 := (layB_iff L).1 hv
        have hln := L5.out.1
        have hcc : 1 ≤ c' := by omega
        have hn24 : n ≤ 24 := by omega
        have hn0 : ¬ n = 0 := by omega
        have hfn : f' < n := by omega
        have TP : Hid (∀ k, 1 ≤ k → k ≤ c' → _) := Lib.hid (fun k h1 h2 => two_parts L f' c' k x y hv hf hc h1 h2 he hea)
        clear hC0 hc0 hl3 hea hz
        go_wp2_with fail
        refine (l_roll _ _ _ _ _ (HS.out.later H5.out.is)).mono ?_
        rintro e w6 ⟨rfl, dice, lt, hb⟩
        have H6 := Lib.hid (H5.out.later hb)
        have L6 := Lib.hid (L5.out.later hb)
        have X6 := Lib.hid (X5.out.later hb)
        have D6 := Lib.hid dice
        have hz5 := H5.out.is.size
        have hz56 := hb.size
        clear hb dice lt
        go_wp2_with fail
        refine (l_below _ _ _ _ (c' : Int) _ D6.out (by omega) (by omega)).mono ?_
        rintro e w7 ⟨r, rfl, r0, r1, dice, gr⟩
        obtain ⟨k1, rfl⟩ : ∃ k1 : Nat, r = (k1 : Int) := ⟨r.toNat, by omega⟩
        have hk1 : k1 + 1 ≤ c' := by omega
        have hs1 : w1.heap.size + 1 < w5.heap.size := (H5.out.1 (w1.heap.size + 1, 0, .int .i64 x) (by simp)).1
        have hs0 : w1.heap.size < w5.heap.size := by omega
        have H7 := Lib.hid (H6.out.dice (D := w5.heap.size) (by intro z hz; simp at hz; rcases hz with rfl | rfl | rfl <;> simp <;> omega) hz5 gr)
        have L7 := Lib.hid (Sgs.grown0 L6.out gr (fun z hz h0 e => by
          obtain ⟨b, off, e2, hb2, _⟩ := L5.out.at 0 h0
          rw [hz] at e2; cases e2; have := Option.some.inj e; simp at this; omega))
        have X7 := Lib.hid (X6.out.kept gr (fun z hz e => by have h1 := BX.out z hz; have := Option.some.inj e; omega))
        have hz67 := gr.size
        clear dice gr r0 r1 D6
        obtain ⟨K, hK⟩ : ∃ K, K = k1 + 1 := ⟨_, rfl⟩
        have hKc : K ≤ c' := by omega
        have hlt1 : k1 < K := by omega
        obtain ⟨t1, t2, t3, t4, t5, t6, t7, t8⟩ := TP.out K (by omega) (by omega)
        obtain ⟨R, hR⟩ : ∃ R, R = runS L f' c' := ⟨_, rfl⟩
        rw [← hR] at t3 t4 t5 t6 t8
        obtain ⟨x', hx'⟩ : ∃ x', x' = x + clL R K := ⟨_, rfl⟩
        obtain ⟨y', hy'⟩ : ∃ y', y' = y + clH R K := ⟨_, rfl⟩
        obtain ⟨r2, hr2⟩ : ∃ r2, r2 = (f' + K) % L.length := ⟨_, rfl⟩
        rw [← hx', ← hy', ← hr2] at t4 t5 t6
        have hKI : (K : Int) = (k1 : Int) + 1 := by omega
        have hCI : ((c' - K : Nat) : Int) = (c' : Int) - ((k1 : Int) + 1) := by omega
        rw [hKI] at t1 t2 t3
        rw [hCI] at t4 t5 t6
        have hmod : ((f' : Int) + ((k1 : Int) + 1)).tmod (n : Int) = (r2 : Int) := by
          rw [Int.tmod_eq_emod_of_nonneg (by omega), hr2, hln, Int.natCast_emod, Int.natCast_add, hKI]
        have hg := flF_gx R x y K k1 (by omega)
        rw [← hK, ← hx', ← hy'] at hg
        have HT := Lib.hid (And.intro t1 (And.intro t2 t3))
        have HU := Lib.hid (And.intro t4 (And.intro t5 t6))
        have HG := Lib.hid hg
        have HNV : Hid (N = c' ∧ V = flF R x y c') := Lib.hid ⟨by rw [HN.out, t7], by rw [HV.out, t8]⟩
        have hne1 : ((K : Int) != (k1 : Int) + 1) = false := by simp [hKI]
        have hcK : c' - K ≤ 24 := by omega
        have HKI := Lib.hid hKI; have HCI := Lib.hid hCI; have HK1 := Lib.hid hK
        clear hKI hCI hK
        clear t1 t2 t3 t4 t5 t6 t7 t8 hg hx' hy' hr2 hR TP
        obtain ⟨j1, j2, j3, _⟩ := Held.s3 H7.out
        go_wp2_with fail
        refine (i_EnergyAlong a' n cap' L (f' : Int) ((k1 : Int) + 1) x y _ L7.out).mono ?_
        rw [HT.out.1, HT.out.2.1, HT.out.2.2]
        rintro e w8 ⟨v, rfl, ho, hb⟩
        obtain ⟨aa, qa, rfl, hqa, hwa, hba, hna⟩ := ho.wd
        have H8 := Lib.hid (H7.out.later hb)
        have L8 := Lib.hid (L7.out.later hb)
        have X8 := Lib.hid (X7.out.later hb)
        have A8 := Lib.hid hwa
        have hz78 := hb.size
        clear hb ho hba j1 j2 j3
        obtain ⟨b3, o3, rfl, g1, g2⟩ := A8.out.two k1 (by omega)
        rw [HG.out.1] at g1
        rw [HG.out.2] at g2
        obtain ⟨_, _, j1, _⟩ := Held.s3 H8.out
        clear hwa
        have hwr1 : IntKind.i64.wrap ((f' : Int) + ((k1 : Int) + 1)) = (f' : Int) + ((k1 : Int) + 1) := IntWalk.i64_in _ (by omega)
        have hwr2 : IntKind.i64.wrap ((c' : Int) - ((k1 : Int) + 1)) = (c' : Int) - ((k1 : Int) + 1) := IntWalk.i64_in _ (by omega)
        have hwr3 : IntKind.i64.wrap ((k1 : Int) + 1 - 1) = (k1 : Int) := (IntWalk.i64_in _ (by omega)).trans (by omega)
        have hwr4 : IntKind.i64.wrap (k1 : Int) = (k1 : Int) := IntWalk.i64_in _ (by omega)
        go_wp2_with fail
        have zj1 := sg_cell_lt j1
        have zg1 := sg_cell_lt g1
        have HK := Lib.hid (And.intro j1 (And.intro g1 g2))
        have KL : Hid (∀ w', Later w8 w' → w'.cell? ⟨w1.heap.size, 0, none⟩ = some (.slice a' n cap') ∧ w'.cell? ⟨b3, o3 + k1 * 2, none⟩ = some (.int .i64 x') ∧ w'.cell? ⟨b3, o3 + k1 * 2 + 1, none⟩ = some (.int .i64 y')) := Lib.hid (fun w' q => ⟨(q.cell (p := ⟨w1.heap.size, 0, none⟩) zj1).trans HK.out.1, (q.cell (p := ⟨b3, o3 + k1 * 2, none⟩) zg1).trans HK.out.2.1, (q.cell (p := ⟨b3, o3 + k1 * 2 + 1, none⟩) zg1).trans HK.out.2.2⟩)
        go_region_held3 (fun w' => w'.cell? ⟨w1.heap.size, 0, none⟩ = some (.slice a' n cap') ∧ w'.cell? ⟨b3, o3 + k1 * 2, none⟩ = some (.int .i64 x') ∧ w'.cell? ⟨b3, o3 + k1 * 2 + 1, none⟩ = some (.int .i64 y')) (exact KL.out _ (by repeat (first | (with_reducible exact Later.refl _) | (with_reducible exact Hid.out (by assumption)) | (with_reducible refine Later.alloc ?_ _) | (with_reducible refine Later.setCell ?_ (by simp; omega) _) | (with_reducible refine Later.setCell ?_ (by simp) _) | (with_reducible refine Later.drewN ?_ _) | (with_reducible refine Later.drew ?_) | (with_reducible refine Later.trans ?_ (Hid.out (by assumption))))))
          ((go_at_call 11; refine (i_EnergyAlong a' n cap' L (r2 : Int) ((c' : Int) - ((k1 : Int) + 1)) x' y' _ (L8.out.later (by repeat (first | (with_reducible exact Later.refl _) | (with_reducible exact Hid.out (by assumption)) | (with_reducible refine Later.alloc ?_ _) | (with_reducible refine Later.setCell ?_ (by simp; omega) _) | (with_reducible refine Later.setCell ?_ (by simp) _) | (with_reducible refine Later.drewN ?_ _) | (with_reducible refine Later.drew ?_) | (with_reducible refine Later.trans ?_ (Hid.out (by assumption))))))).mono ?_; rw [HU.out.1, HU.out.2.1]; rintro e w9 ⟨v, rfl, ho, hb⟩; obtain ⟨ab, qb, rfl, hqb, hwb, hbb, hnb⟩ := ho.wd; have HB9 : Hid (Later w8 w9) := Lib.hid (Later.trans (by repeat (first | (with_reducible exact Later.refl _) | (with_reducible exact Hid.out (by assumption)) | (with_reducible refine Later.alloc ?_ _) | (with_reducible refine Later.setCell ?_ (by simp; omega) _) | (with_reducible refine Later.setCell ?_ (by simp) _) | (with_reducible refine Later.drewN ?_ _) | (with_reducible refine Later.drew ?_) | (with_reducible refine Later.trans ?_ (Hid.out (by assumption))))) hb); have B9 := Lib.hid hwb; have BB : Hid (∀ z, ab = some z → z.block < w9.heap.size) := Lib.hid (fun z hz => (hbb z hz).2); clear ho hbb hb hwb))
        all_goals
          have A9 := Lib.hid (A8.out.later HB9.out)
          have X9 := Lib.hid (X8.out.later HB9.out)
          obtain ⟨EV, hEV⟩ : ∃ EV, EV = eaV L (r2 : Int) ((c' : Int) - ((k1 : Int) + 1)) x' y' := ⟨_, rfl⟩
          obtain ⟨FL, hFL⟩ : ∃ FL, FL = flF R x y K := ⟨_, rfl⟩
          have HV2 : Hid (V = FL ++ EV) := Lib.hid (by rw [HNV.out.2, HU.out.2.2, hEV, hFL])
          rw [← hEV] at B9
          rw [← hFL] at A9
          have SA : Hid (Wd (w9.alloc (.cells #[] 28)) (some ⟨b3, o3, none⟩) K 2 FL) := Lib.hid (A9.out.later ((Later.refl _).alloc _))
          have hb3 : b3 < w9.heap.size := Nat.lt_of_lt_of_le zg1 HB9.out.size
          have hb9 := HB9.out.size
          have HZ8 := H8.out.is.size
          clear hEV hFL HK KL g1 g2 j1
          have tok1 : True := trivial
          go_wp2_with (first
            | (at_builtin; have _t := tok1; go_must (refine appWall _ _ _ _ _ 2 16 info_iv Try.underlying31 rfl (by decide) (by decide) rfl w9.heap.size _ _ 0 K [] FL (some ⟨b3, o3, none⟩) qa (ownW_new w9 _ _ _ (Nat.le_refl _)) SA.out (fun e => by cases e) rfl rfl rfl (by omega) (by simp) ?_); intro v1 wa ho1 hg1; clear tok1; have tok2 : True := trivial;
               have O1 := Lib.hid ho1; have G1 := Lib.hid hg1; have SB := Lib.hid ((B9.out.later ((Later.refl w9).alloc (.cells #[] 28))).kept hg1 (fun z hz e => by have h1 := BB.out z hz; have h2 := Option.some.inj e; simp at h2; omega)); clear ho1 hg1)
            | (at_builtin; have _t := tok2; go_must (refine appWall _ _ _ _ _ 2 16 info_iv Try.underlying31 rfl (by decide) (by decide) rfl w9.heap.size _ _ (0 + K) (c' - K) ([] ++ FL) EV ab qb O1.out SB.out hnb rfl rfl rfl (by omega) (by have := G1.out.size; simp at this; omega) ?_); intro v2 wb ho2 hg2; clear tok2))
          obtain ⟨a2, q2, rfl, _, hw2, _, _⟩ := ho2.wd
          have X10 : Wd wa ax N 2 V := (X9.out.later ((Later.refl w9).alloc (.cells #[] 28))).kept G1.out (fun z hz e => by have h1 := BX.out z hz; have h2 := Option.some.inj e; simp at h2; omega)
          have X11 : Wd wb ax N 2 V := X10.kept hg2 (fun z hz e => by have h1 := BX.out z hz; have h2 := (O1.out.lt z.block e).1; omega)
          have e9 : [] ++ FL ++ EV = V := by rw [HV2.out]; simp
          rw [e9] at hw2
          have BB9 : Later w w9 := H8.out.is.trans HB9.out
          have B10 : Hid (Later w wb) := Lib.hid (later_kept (later_kept (BB9.alloc _) G1.out (fun j e => by simp [Value.ownBlock] at e; have := BB9.size; omega)) hg2 (fun j e => by have h1 := (O1.out.lt j e).1; have := BB9.size; omega))
          refine (l_likeIntervals_same a2 ax _ q2 N qx V _ hw2 X11).mono ?_
          rintro e w10 ⟨rfl, hb⟩
          have B11 : Hid (Later w w10) := Lib.hid (B10.out.trans hb)
          clear hb hg2 ho2 hw2 X10 X11 e9 BB9
          go_wp2_with fail
          go_ret
          exact ⟨rfl, B11.out⟩
    · have hC1 : (C != 0) = true := by simpa using hC0
      clear hC0
      go_wp2_with fail
      go_ret
      exact ⟨rfl, H5.out.is⟩
end Go.Proofs.Ytnmlkigpiaekjaa
